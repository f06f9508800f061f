import Derived.Test.YtebibmioiigplaaGreatGL
import Derived.Test.YtebibmioiigplaaGreatGO
import Derived.Test.YtebibmioiigplaaGreatGP
/- Layer 17: the decider's functions, run by the machine. -/
namespace Go.Proofs.YtebibmioiigplaaGreat.Dec
open Go.Eng Go.RowKit Mil Rin
set_option linter.unusedVariables false
set_option linter.unusedSimpArgs false
theorem mixed : Tryz.prog.follows .mixedOrders = true := Checked.mixed Tryz.checked
noncomputable def X0 : Cfg := ⟨Tryz.prog, lookG [], [], 0⟩
theorem X0_ok : X0.Ok := Cfg.ok trivial trivial
noncomputable def madE : Eng.Obj := execO X0 noLoops 32
theorem madE_ok : ObjOk Tryz.prog 32 madE := execO_plain X0_ok mixed Tryz.func32 (by kernel_rfl) (by kernel_rfl)
noncomputable def X1 : Cfg := ⟨Tryz.prog, lookG [(103, .val Conf.limitS2), (73, .val Conf.isS), (101, .val Conf.keepS), (100, .obj Dly.putS), (102, .obj Dly.mosS), (37, .val Conf.mostS)], [], 0⟩
theorem X1_ok : X1.Ok := Cfg.ok ⟨Conf.ratelimit_ok, Conf.is_ok, Conf.keep_ok, Dly.putS_ok, Dly.mosS_ok, Conf.most_ok, trivial⟩ trivial
noncomputable def pacE : Eng.Obj := execO X1 noLoops 72
theorem pacE_ok : ObjOk Tryz.prog 72 pacE := execO_plain X1_ok mixed Tryz.func72 (by kernel_rfl) (by kernel_rfl)
noncomputable def setE : Eng.Obj := execO X1 noLoops 71
theorem setE_ok : ObjOk Tryz.prog 71 setE := execO_plain X1_ok mixed Tryz.func71 (by kernel_rfl) (by kernel_rfl)
noncomputable def X2 : Cfg := ⟨Tryz.prog, lookG [(32, .obj madE), (72, .obj pacE), (71, .obj setE), (68, .obj Met.meaE), (55, .val Conf.ofS), (70, .val Conf.overS), (69, .val Conf.nextS), (73, .val Conf.isS), (74, .val Conf.excS)], EB, 0⟩
theorem X2_ok : X2.Ok := Cfg.ok ⟨madE_ok, pacE_ok, setE_ok, Met.meaE_ok, Conf.of_ok, Conf.over_ok, Conf.next_ok, Conf.is_ok, Conf.exc_ok, trivial⟩ EB_ok
noncomputable def judE : Eng.Obj := execO X2 noLoops 41
theorem judE_ok : ObjOk Tryz.prog 41 judE := execO_plain X2_ok mixed Tryz.func41 (by kernel_rfl) (by kernel_rfl)
noncomputable def X3 : Cfg := ⟨Tryz.prog, lookG [(32, .obj madE), (41, .obj judE), (33, .obj Met.putE), (35, .obj Met.chE), (52, .obj Met.ovE), (36, .obj Del.spanD), (24, .val Conf.mayS), (37, .val Conf.mostS), (27, .val Conf.calmS), (25, .obj Met.newE), (26, .obj Dly.newA)], EB, 0⟩
theorem X3_ok : X3.Ok := Cfg.ok ⟨madE_ok, judE_ok, Met.putE_ok, Met.chE_ok, Met.ovE_ok, Del.spanD_ok, Conf.may_ok, Conf.most_ok, Conf.calm_ok, Met.newE_ok, Dly.newA_ok, trivial⟩ EB_ok
noncomputable def nexE : Eng.Obj := execO X3 noLoops 12
theorem nexE_ok : ObjOk Tryz.prog 12 nexE := execO_plain X3_ok mixed Tryz.func12 (by kernel_rfl) (by kernel_rfl)
noncomputable def dputE : Eng.Obj := execO X3 noLoops 8
theorem dputE_ok : ObjOk Tryz.prog 8 dputE := execO_plain X3_ok mixed Tryz.func8 (by kernel_rfl) (by kernel_rfl)
noncomputable def dchE : Eng.Obj := execO X3 noLoops 10
theorem dchE_ok : ObjOk Tryz.prog 10 dchE := execO_plain X3_ok mixed Tryz.func10 (by kernel_rfl) (by kernel_rfl)
noncomputable def dmoE : Eng.Obj := execO X3 noLoops 14
theorem dmoE_ok : ObjOk Tryz.prog 14 dmoE := execO_plain X3_ok mixed Tryz.func14 (by kernel_rfl) (by kernel_rfl)
noncomputable def dovE : Eng.Obj := execO X3 noLoops 15
theorem dovE_ok : ObjOk Tryz.prog 15 dovE := execO_plain X3_ok mixed Tryz.func15 (by kernel_rfl) (by kernel_rfl)
noncomputable def dneE : Eng.Obj := execO X3 noLoops 5
theorem dneE_ok : ObjOk Tryz.prog 5 dneE := execO_plain X3_ok mixed Tryz.func5 (by kernel_rfl) (by kernel_rfl)
def cfL (c : Conf.Cf) : List V := [Eng.iv c.target, Eng.iv c.util, Eng.iv c.stable, Eng.iv c.panic, Eng.iv c.grain, Eng.iv c.threshold, Eng.iv c.up, Eng.iv c.down, Eng.iv c.min, Eng.iv c.max, Eng.iv c.initial, Eng.iv c.grace, Eng.iv c.delay, Eng.iv c.burst, Eng.iv c.limit, Eng.iv c.queue, Eng.iv c.timeout, Eng.iv c.ready, Eng.iv c.subset, Eng.iv c.sample]
structure DcS where
  c : Conf.Cf
  gm : Int
  om : Bool
  s : RS
  q : RS
  sp : Int
  a : Int
  n : Nat
  l : List (Int × Int)
  si : Int
  mo : Int
  la : Int
def decB (d : DcS) (i j : Nat) : Blk := .cells 59 [Eng.iv d.c.target, Eng.iv d.c.util, Eng.iv d.c.stable, Eng.iv d.c.panic, Eng.iv d.c.grain, Eng.iv d.c.threshold, Eng.iv d.c.up, Eng.iv d.c.down, Eng.iv d.c.min, Eng.iv d.c.max, Eng.iv d.c.initial, Eng.iv d.c.grace, Eng.iv d.c.delay, Eng.iv d.c.burst, Eng.iv d.c.limit, Eng.iv d.c.queue, Eng.iv d.c.timeout, Eng.iv d.c.ready, Eng.iv d.c.subset, Eng.iv d.c.sample, .ptr i 0, .ptr j 0, Eng.iv d.si, Eng.iv d.mo, Eng.iv d.la]
/-- a decider -/
def decH (d : DcS) : Heap := [(0, decB d 1 2), (1, Met.metB 3 4 d.gm d.om), (2, Dly.dlB d.sp d.a 5 d.n), (3, Met.rB d.s 6), (4, Met.rB d.q 7), (5, Dly.stpB d.l), (6, bxB d.s.l [] none), (7, bxB d.q.l [] none)]
end Go.Proofs.YtebibmioiigplaaGreat.Dec

/- Layer 17: what Next comes to. -/
namespace Go.Proofs.YtebibmioiigplaaGreat.Dec
open Go.Eng Go.RowKit Mil Rin
set_option linter.unusedVariables false
set_option linter.unusedSimpArgs false
set_option maxRecDepth 100000
noncomputable def hasty (d : DcS) (t : Int) : Int := Conf.ofC d.c (d.q.mean t)
noncomputable def calmy (d : DcS) (t : Int) : Int := Conf.ofC d.c (d.s.mean t)
noncomputable def nxM (d : DcS) (t r : Int) : Conf.Md := Conf.nextA d.c ⟨d.si, d.mo⟩ t (Conf.overC d.c (hasty d t) r)
noncomputable def nxN (b : Bool) (d : DcS) (t r : Int) : Int := bif b then (if Conf.limitR d.c (hasty d t) r > Conf.limitR d.c (calmy d t) r then Conf.limitR d.c (hasty d t) r else Conf.limitR d.c (calmy d t) r) else Conf.limitR d.c (calmy d t) r
noncomputable def nxL (b : Bool) (d : DcS) (t r : Int) : List (Int × Int) := Dly.putL d.l t (nxN b d t r)
noncomputable def nxF (b : Bool) (d : DcS) (t r : Int) : Int := Dly.fS (Dly.thr (Dly.mx0 t) d.sp) (nxL b d t r)
noncomputable def nxK (b : Bool) (d : DcS) (t r : Int) : Conf.Md := Conf.keepA ⟨(nxM d t r).since, (nxM d t r).most⟩ (nxF b d t r)
noncomputable def nxQ (b : Bool) (d : DcS) (t r : Int) : Int := Conf.keepW ⟨(nxM d t r).since, (nxM d t r).most⟩ (nxF b d t r)
def boundI (c : Conf.Cf) (n : Int) : Int := if c.min > (if Conf.mostC c < n then Conf.mostC c else n) then c.min else (if Conf.mostC c < n then Conf.mostC c else n)
noncomputable def nxW (b : Bool) (d : DcS) (t r : Int) : Int := boundI d.c (nxQ b d t r)
noncomputable def nxD (b : Bool) (d : DcS) (t r : Int) : DcS := ⟨d.c, d.gm, d.om, d.s.sum t, d.q.sum t, d.sp, t, (nxL b d t r).length, nxL b d t r, (nxK b d t r).since, (nxK b d t r).most, t⟩
def dcsV (t s q w : Int) (p : Bool) (x : Int) : V := .agg [Eng.iv t, Eng.iv s, Eng.iv q, Eng.iv w, Eng.bv p, Eng.iv x]
noncomputable def nxV (b : Bool) (d : DcS) (t r : Int) : V := dcsV t (d.s.mean t) (d.q.mean t) (nxW b d t r) (decide (0 ≤ (nxK b d t r).since)) (Conf.excB d.c r (d.q.mean t))
def decR (d : DcS) : Heap := [(0, decB d 1 2), (1, Met.metB 3 4 d.gm d.om), (2, Dly.dlB d.sp d.a 16 d.n), (3, Met.rB d.s 6), (4, Met.rB d.q 7), (6, bxB d.s.l [] none), (7, bxB d.q.l [] none), (16, Dly.stpB d.l)]
def badA17 (d : DcS) (t r : Int) : Bool := bif bif bif decide (t < d.la) then true else decide (1099511627776 < t) then true else decide (r < 0) then true else decide (100 < r)
noncomputable def nxC (b : Bool) (d : DcS) (t r : Int) : List (Bool × Bool) := [(badA17 d t r, false)] ++ (sumC d.s t ++ (sumC d.q t ++ ([(Conf.inC d.c && Mil.inR (d.s.mean t), true), (Conf.inC d.c && Mil.inR (d.q.mean t), true), (Conf.inC d.c, true), (Mil.inR d.si && Mil.inR t, true), (true, true), (decide (0 ≤ (nxM d t r).since), b)] ++
  ((bif b then [(true, true)] else []) ++ [(Dly.refB d.a t (nxN b d t r), false), (Dly.pB (Dly.okU d.a d.n d.l), true), (Dly.pB (Dly.okW d.sp (Dly.mx0 t) (nxL b d t r).length (nxL b d t r)), true), (Mil.inR (d.q.mean t), true)]))))
theorem nex_w (b : Bool) (d : DcS) (t r : Int) : T.path ([false, true, false, true, true, false, true, true, true, true, true, true, b] ++ ((bif b then [true] else []) ++ [false, true, true, true])) (T.anon (nexE [.ptr 0 0, Eng.iv t, Eng.iv r] (decH d))) = some (nxC b d t r, (.tup [nxV b d t r, Eng.iv 0], decR (nxD b d t r))) := by cases b <;> kernel_rfl
end Go.Proofs.YtebibmioiigplaaGreat.Dec

/- Layer 17: the decider: contracts of Next and Put. -/
namespace Go.Proofs.YtebibmioiigplaaGreat.Dec
open Go.Eng Go.RowKit Mil Rin
set_option linter.unusedVariables false
set_option linter.unusedSimpArgs false
set_option maxRecDepth 100000
structure PDc where (c_target c_util c_stable c_panic c_grain c_threshold c_up c_down c_min c_max c_initial c_grace c_delay c_burst c_limit c_queue c_timeout c_ready c_subset c_sample : Int) (si : Int) (mo : Int) (la : Int) (gm : Int) (om : Bool) (sp : Int) (a : Int) (nl : Nat) (w1 : Int) (g1 : Int) (n1 : Nat) (nw1 : Int) (ov1 : Bool) (w2 : Int) (g2 : Int) (n2 : Nat) (nw2 : Int) (ov2 : Bool) (l : List (Int × Int)) (l1 : List OB) (l2 : List OB)
def hpDc (p : PDc) : Heap := [(0, .cells 59 [iv p.c_target, iv p.c_util, iv p.c_stable, iv p.c_panic, iv p.c_grain, iv p.c_threshold, iv p.c_up, iv p.c_down, iv p.c_min, iv p.c_max, iv p.c_initial, iv p.c_grace, iv p.c_delay, iv p.c_burst, iv p.c_limit, iv p.c_queue, iv p.c_timeout, iv p.c_ready, iv p.c_subset, iv p.c_sample, .ptr 1 0, .ptr 2 0, iv p.si, iv p.mo, iv p.la]), (1, .cells 93 [.iface 90 (.agg [.ptr 3 0, .ptr 4 0]), iv p.gm, bv p.om]), (2, .cells 97 [iv p.sp, iv p.a, .sub 5 2 0 p.nl]), (3, .cells 131 [iv p.w1, iv p.g1, .sub 6 1 0 p.n1, iv p.nw1, bv p.ov1]), (4, .cells 131 [iv p.w2, iv p.g2, .sub 7 1 0 p.n2, iv p.nw2, bv p.ov2]), (5, .lst true 160 [.int .i64, .int .i64] p.l), (6, .bx 20 134 138 [.int .i64, .int .i64, .bool] p.l1 [] none), (7, .bx 20 134 138 [.int .i64, .int .i64, .bool] p.l2 [] none)]
def decDc_b0 : Blk → Option ((Int) × (Int) × (Int) × (Int) × (Int) × (Int) × (Int) × (Int) × (Int) × (Int) × (Int) × (Int) × (Int) × (Int) × (Int) × (Int) × (Int) × (Int) × (Int) × (Int) × (Int) × (Int) × (Int))
  | .cells tt0 [.s (.int .i64 c_target), .s (.int .i64 c_util), .s (.int .i64 c_stable), .s (.int .i64 c_panic), .s (.int .i64 c_grain), .s (.int .i64 c_threshold), .s (.int .i64 c_up), .s (.int .i64 c_down), .s (.int .i64 c_min), .s (.int .i64 c_max), .s (.int .i64 c_initial), .s (.int .i64 c_grace), .s (.int .i64 c_delay), .s (.int .i64 c_burst), .s (.int .i64 c_limit), .s (.int .i64 c_queue), .s (.int .i64 c_timeout), .s (.int .i64 c_ready), .s (.int .i64 c_subset), .s (.int .i64 c_sample), .ptr 1 0, .ptr 2 0, .s (.int .i64 si), .s (.int .i64 mo), .s (.int .i64 la)] => if tt0 = 59 then some (c_target, c_util, c_stable, c_panic, c_grain, c_threshold, c_up, c_down, c_min, c_max, c_initial, c_grace, c_delay, c_burst, c_limit, c_queue, c_timeout, c_ready, c_subset, c_sample, si, mo, la) else none
  | _ => none
theorem decDc_b0_ok (b : Blk) (y0 : (Int) × (Int) × (Int) × (Int) × (Int) × (Int) × (Int) × (Int) × (Int) × (Int) × (Int) × (Int) × (Int) × (Int) × (Int) × (Int) × (Int) × (Int) × (Int) × (Int) × (Int) × (Int) × (Int)) (h : decDc_b0 b = some y0) : b = .cells 59 [iv (y0.1), iv (y0.2.1), iv (y0.2.2.1), iv (y0.2.2.2.1), iv (y0.2.2.2.2.1), iv (y0.2.2.2.2.2.1), iv (y0.2.2.2.2.2.2.1), iv (y0.2.2.2.2.2.2.2.1), iv (y0.2.2.2.2.2.2.2.2.1), iv (y0.2.2.2.2.2.2.2.2.2.1), iv (y0.2.2.2.2.2.2.2.2.2.2.1), iv (y0.2.2.2.2.2.2.2.2.2.2.2.1), iv (y0.2.2.2.2.2.2.2.2.2.2.2.2.1), iv (y0.2.2.2.2.2.2.2.2.2.2.2.2.2.1), iv (y0.2.2.2.2.2.2.2.2.2.2.2.2.2.2.1), iv (y0.2.2.2.2.2.2.2.2.2.2.2.2.2.2.2.1), iv (y0.2.2.2.2.2.2.2.2.2.2.2.2.2.2.2.2.1), iv (y0.2.2.2.2.2.2.2.2.2.2.2.2.2.2.2.2.2.1), iv (y0.2.2.2.2.2.2.2.2.2.2.2.2.2.2.2.2.2.2.1), iv (y0.2.2.2.2.2.2.2.2.2.2.2.2.2.2.2.2.2.2.2.1), .ptr 1 0, .ptr 2 0, iv (y0.2.2.2.2.2.2.2.2.2.2.2.2.2.2.2.2.2.2.2.2.1), iv (y0.2.2.2.2.2.2.2.2.2.2.2.2.2.2.2.2.2.2.2.2.2.1), iv (y0.2.2.2.2.2.2.2.2.2.2.2.2.2.2.2.2.2.2.2.2.2.2)] := by
  unfold decDc_b0 at h
  split at h
  · obtain ⟨e0, h⟩ := ite_some0 h
    subst e0
    cases h
    rfl
  · cases h
def decDc_b1 : Blk → Option ((Int) × (Bool))
  | .cells tt0 [.iface tt1 (.agg [.ptr 3 0, .ptr 4 0]), .s (.int .i64 gm), .s (.bool om)] => if tt0 = 93 then if tt1 = 90 then some (gm, om) else none else none
  | _ => none
theorem decDc_b1_ok (b : Blk) (y1 : (Int) × (Bool)) (h : decDc_b1 b = some y1) : b = .cells 93 [.iface 90 (.agg [.ptr 3 0, .ptr 4 0]), iv (y1.1), bv (y1.2)] := by
  unfold decDc_b1 at h
  split at h
  · obtain ⟨e0, h⟩ := ite_some0 h
    obtain ⟨e1, h⟩ := ite_some0 h
    subst e0 e1
    cases h
    rfl
  · cases h
def decDc_b2 : Blk → Option ((Int) × (Int) × (Nat))
  | .cells tt0 [.s (.int .i64 sp), .s (.int .i64 a), .sub 5 2 0 nl] => if tt0 = 97 then some (sp, a, nl) else none
  | _ => none
theorem decDc_b2_ok (b : Blk) (y2 : (Int) × (Int) × (Nat)) (h : decDc_b2 b = some y2) : b = .cells 97 [iv (y2.1), iv (y2.2.1), .sub 5 2 0 (y2.2.2)] := by
  unfold decDc_b2 at h
  split at h
  · obtain ⟨e0, h⟩ := ite_some0 h
    subst e0
    cases h
    rfl
  · cases h
def decDc_b3 : Blk → Option ((Int) × (Int) × (Nat) × (Int) × (Bool))
  | .cells tt0 [.s (.int .i64 w1), .s (.int .i64 g1), .sub 6 1 0 n1, .s (.int .i64 nw1), .s (.bool ov1)] => if tt0 = 131 then some (w1, g1, n1, nw1, ov1) else none
  | _ => none
theorem decDc_b3_ok (b : Blk) (y3 : (Int) × (Int) × (Nat) × (Int) × (Bool)) (h : decDc_b3 b = some y3) : b = .cells 131 [iv (y3.1), iv (y3.2.1), .sub 6 1 0 (y3.2.2.1), iv (y3.2.2.2.1), bv (y3.2.2.2.2)] := by
  unfold decDc_b3 at h
  split at h
  · obtain ⟨e0, h⟩ := ite_some0 h
    subst e0
    cases h
    rfl
  · cases h
def decDc_b4 : Blk → Option ((Int) × (Int) × (Nat) × (Int) × (Bool))
  | .cells tt0 [.s (.int .i64 w2), .s (.int .i64 g2), .sub 7 1 0 n2, .s (.int .i64 nw2), .s (.bool ov2)] => if tt0 = 131 then some (w2, g2, n2, nw2, ov2) else none
  | _ => none
theorem decDc_b4_ok (b : Blk) (y4 : (Int) × (Int) × (Nat) × (Int) × (Bool)) (h : decDc_b4 b = some y4) : b = .cells 131 [iv (y4.1), iv (y4.2.1), .sub 7 1 0 (y4.2.2.1), iv (y4.2.2.2.1), bv (y4.2.2.2.2)] := by
  unfold decDc_b4 at h
  split at h
  · obtain ⟨e0, h⟩ := ite_some0 h
    subst e0
    cases h
    rfl
  · cases h
def decDc_b5 : Blk → Option ((List (Int × Int)))
  | .lst true tt0 [.int .i64, .int .i64] l => if tt0 = 160 then some (l) else none
  | _ => none
theorem decDc_b5_ok (b : Blk) (y5 : (List (Int × Int))) (h : decDc_b5 b = some y5) : b = .lst true 160 [.int .i64, .int .i64] (y5) := by
  unfold decDc_b5 at h
  split at h
  · obtain ⟨e0, h⟩ := ite_some0 h
    subst e0
    cases h
    rfl
  · cases h
def decDc_b6 : Blk → Option ((List OB))
  | .bx tt0 tt1 tt2 [.int .i64, .int .i64, .bool] l1 [] none => if tt0 = 20 then if tt1 = 134 then if tt2 = 138 then some (l1) else none else none else none
  | _ => none
theorem decDc_b6_ok (b : Blk) (y6 : (List OB)) (h : decDc_b6 b = some y6) : b = .bx 20 134 138 [.int .i64, .int .i64, .bool] (y6) [] none := by
  unfold decDc_b6 at h
  split at h
  · obtain ⟨e0, h⟩ := ite_some0 h
    obtain ⟨e1, h⟩ := ite_some0 h
    obtain ⟨e2, h⟩ := ite_some0 h
    subst e0 e1 e2
    cases h
    rfl
  · cases h
def decDc_b7 : Blk → Option ((List OB))
  | .bx tt0 tt1 tt2 [.int .i64, .int .i64, .bool] l2 [] none => if tt0 = 20 then if tt1 = 134 then if tt2 = 138 then some (l2) else none else none else none
  | _ => none
theorem decDc_b7_ok (b : Blk) (y7 : (List OB)) (h : decDc_b7 b = some y7) : b = .bx 20 134 138 [.int .i64, .int .i64, .bool] (y7) [] none := by
  unfold decDc_b7 at h
  split at h
  · obtain ⟨e0, h⟩ := ite_some0 h
    obtain ⟨e1, h⟩ := ite_some0 h
    obtain ⟨e2, h⟩ := ite_some0 h
    subst e0 e1 e2
    cases h
    rfl
  · cases h
def decDc : Heap → Option PDc
  | [(0, b0), (1, b1), (2, b2), (3, b3), (4, b4), (5, b5), (6, b6), (7, b7)] => (decDc_b0 b0).bind fun y0 => (decDc_b1 b1).bind fun y1 => (decDc_b2 b2).bind fun y2 => (decDc_b3 b3).bind fun y3 => (decDc_b4 b4).bind fun y4 => (decDc_b5 b5).bind fun y5 => (decDc_b6 b6).bind fun y6 => (decDc_b7 b7).bind fun y7 => some ⟨y0.1, y0.2.1, y0.2.2.1, y0.2.2.2.1, y0.2.2.2.2.1, y0.2.2.2.2.2.1, y0.2.2.2.2.2.2.1, y0.2.2.2.2.2.2.2.1, y0.2.2.2.2.2.2.2.2.1, y0.2.2.2.2.2.2.2.2.2.1, y0.2.2.2.2.2.2.2.2.2.2.1, y0.2.2.2.2.2.2.2.2.2.2.2.1, y0.2.2.2.2.2.2.2.2.2.2.2.2.1, y0.2.2.2.2.2.2.2.2.2.2.2.2.2.1, y0.2.2.2.2.2.2.2.2.2.2.2.2.2.2.1, y0.2.2.2.2.2.2.2.2.2.2.2.2.2.2.2.1, y0.2.2.2.2.2.2.2.2.2.2.2.2.2.2.2.2.1, y0.2.2.2.2.2.2.2.2.2.2.2.2.2.2.2.2.2.1, y0.2.2.2.2.2.2.2.2.2.2.2.2.2.2.2.2.2.2.1, y0.2.2.2.2.2.2.2.2.2.2.2.2.2.2.2.2.2.2.2.1, y0.2.2.2.2.2.2.2.2.2.2.2.2.2.2.2.2.2.2.2.2.1, y0.2.2.2.2.2.2.2.2.2.2.2.2.2.2.2.2.2.2.2.2.2.1, y0.2.2.2.2.2.2.2.2.2.2.2.2.2.2.2.2.2.2.2.2.2.2, y1.1, y1.2, y2.1, y2.2.1, y2.2.2, y3.1, y3.2.1, y3.2.2.1, y3.2.2.2.1, y3.2.2.2.2, y4.1, y4.2.1, y4.2.2.1, y4.2.2.2.1, y4.2.2.2.2, y5, y6, y7⟩
  | _ => none
theorem decDc_ok {h : Heap} {p : PDc} (e : decDc h = some p) : h = hpDc p := by
  unfold decDc at e
  split at e
  · obtain ⟨y0, hy0, e⟩ := Option.bind_eq_some_iff.1 e
    obtain ⟨y1, hy1, e⟩ := Option.bind_eq_some_iff.1 e
    obtain ⟨y2, hy2, e⟩ := Option.bind_eq_some_iff.1 e
    obtain ⟨y3, hy3, e⟩ := Option.bind_eq_some_iff.1 e
    obtain ⟨y4, hy4, e⟩ := Option.bind_eq_some_iff.1 e
    obtain ⟨y5, hy5, e⟩ := Option.bind_eq_some_iff.1 e
    obtain ⟨y6, hy6, e⟩ := Option.bind_eq_some_iff.1 e
    obtain ⟨y7, hy7, e⟩ := Option.bind_eq_some_iff.1 e
    have ey0 := decDc_b0_ok _ _ hy0
    have ey1 := decDc_b1_ok _ _ hy1
    have ey2 := decDc_b2_ok _ _ hy2
    have ey3 := decDc_b3_ok _ _ hy3
    have ey4 := decDc_b4_ok _ _ hy4
    have ey5 := decDc_b5_ok _ _ hy5
    have ey6 := decDc_b6_ok _ _ hy6
    have ey7 := decDc_b7_ok _ _ hy7
    cases e
    subst ey0 ey1 ey2 ey3 ey4 ey5 ey6 ey7
    rfl
  · cases e
def dcOf (p : PDc) : DcS := ⟨⟨p.c_target, p.c_util, p.c_stable, p.c_panic, p.c_grain, p.c_threshold, p.c_up, p.c_down, p.c_min, p.c_max, p.c_initial, p.c_grace, p.c_delay, p.c_burst, p.c_limit, p.c_queue, p.c_timeout, p.c_ready, p.c_subset, p.c_sample⟩, p.gm, p.om, ⟨p.w1, p.g1, p.n1, p.nw1, p.ov1, p.l1⟩, ⟨p.w2, p.g2, p.n2, p.nw2, p.ov2, p.l2⟩, p.sp, p.a, p.nl, p.l, p.si, p.mo, p.la⟩
def asDc (h : Heap) : Option DcS := (decDc h).bind fun p => some (dcOf p)
theorem asDc_ok {h : Heap} {d : DcS} (e : asDc h = some d) : h = decH d := by
  unfold asDc at e
  obtain ⟨p, hp, e⟩ := Option.bind_eq_some_iff.1 e
  cases e
  rw [decDc_ok hp]; rfl
/-- what a decider is -/
structure DcG (d : DcS) (m : Nat) : Prop where
  may : Conf.mayB d.c = true
  s : ∃ rs, HoldsR d.s rs
  q : ∃ rs, HoldsR d.q rs
  sp0 : 0 ≤ d.sp
  sp1 : d.sp ≤ 600
  n : d.n = d.l.length
  n1 : d.n ≤ m
  h : ∃ L, Dly.Holds d.a d.l L
  si : -1 ≤ d.si
  sl : d.si ≤ d.la
  la : 0 ≤ d.la
  al : d.a ≤ d.la
theorem ofC_bd (c : Conf.Cf) (m : Int) : 0 ≤ Conf.ofC c m ∧ Conf.ofC c m ≤ 1000000 := Conf.ofC_range c m
theorem limit_bd {c : Conf.Cf} (hm : Conf.mayB c = true) {w : Int} (w0 : 0 ≤ w) (w1 : w ≤ 1000000) (r : Int) : 0 ≤ Conf.limitR c w r ∧ Conf.limitR c w r ≤ 1000000 := by
  have up := (Conf.may_of hm).up
  have h1 := Conf.clampI_range r (lo := 1) (hi := 1000000) (by omega)
  have h2 : 0 ≤ c.up * clampI r 1 1000000 := Int.mul_nonneg (by omega) (by omega)
  obtain ⟨u1, _⟩ := Conf.up_nonneg h2 (show (0 : Int) < 1000 by decide)
  unfold Conf.limitR
  rw [if_pos hm]
  have m0 : 0 ≤ Conf.mostR c r ∧ Conf.mostR c r ≤ 1000000 := by
    unfold Conf.mostR Conf.capM
    rw [if_pos hm]; split <;> omega
  unfold Conf.midR
  by_cases h3 : Conf.leastR c r > w
  · rw [if_pos h3]; split <;> omega
  · rw [if_neg h3]; split <;> omega
theorem putL_len (l : List (Int × Int)) (t w : Int) : (Dly.putL l t w).length ≤ l.length + 1 := by
  unfold Dly.putL
  refine Nat.le_trans (List.length_filter_le _ _) ?_
  rw [List.length_append]
  exact Nat.add_le_add_right (List.length_filter_le _ _) 1
theorem inR_wI (n : Int) : Mil.inR (wI n) = true := by
  have h : (Lit.int .i64 (wI n)).wf = true := wf_wrap .i64 n
  obtain ⟨h1, h2⟩ := wf64 h
  exact Mil.inR_iff.2 ⟨h1, h2⟩
theorem inR_mean (s : RS) (t : Int) : Mil.inR (s.mean t) = true := by
  unfold RS.mean mnV
  cases ((s.sumA t).c == 0)
  · exact inR_wI _
  · rfl
theorem DcG.cond {d : DcS} {m : Nat} (h : DcG d m) (hm : m ≤ 99998) {t r : Int} (hb : badA17 d t r = false) : ∃ b, allSay (nxC b d t r) ∧ b = decide (0 ≤ (nxM d t r).since) ∧ d.la ≤ t ∧ t ≤ 1099511627776 := by
  have hb' : d.la ≤ t ∧ t ≤ 1099511627776 ∧ 0 ≤ r ∧ r ≤ 100 := by
    unfold badA17 at hb
    by_cases h1 : t < d.la
    · rw [decide_eq_true h1] at hb; cases hb
    · by_cases h2 : 1099511627776 < t
      · rw [decide_eq_false h1, decide_eq_true h2] at hb; cases hb
      · by_cases h3 : r < 0
        · rw [decide_eq_false h1, decide_eq_false h2, decide_eq_true h3] at hb; cases hb
        · rw [decide_eq_false h1, decide_eq_false h2, decide_eq_false h3] at hb
          have := of_decide_eq_false hb
          omega
  obtain ⟨rs1, hs⟩ := h.s
  obtain ⟨rs2, hq⟩ := h.q
  obtain ⟨L, hh⟩ := h.h
  have la := h.la
  have al := h.al
  have si := h.si
  have sl := h.sl
  have nn := h.n
  have n1 := h.n1
  have a1 := hs.sum (t := t) (by omega) (by omega)
  have b1 := hq.sum (t := t) (by omega) (by omega)
  have may := Conf.may_of h.may
  have ic : Conf.inC d.c = true := by
    unfold Conf.inC
    have h1 := may.target
    have h2 := may.util
    rw [Mil.inR_iff.2 ⟨by omega, by omega⟩, Mil.inR_iff.2 ⟨by omega, by omega⟩]; rfl
  refine ⟨_, ?_, rfl, hb'.1, hb'.2.1⟩
  have nb : ∀ b, 0 ≤ nxN b d t r ∧ nxN b d t r ≤ 1000000 := by
    intro b
    have l1 := limit_bd h.may (ofC_bd d.c (d.s.mean t)).1 (ofC_bd d.c (d.s.mean t)).2 r
    have l2 := limit_bd h.may (ofC_bd d.c (d.q.mean t)).1 (ofC_bd d.c (d.q.mean t)).2 r
    unfold nxN calmy hasty
    cases b
    · exact l1
    · simp only [cond_true]; split
      · exact l2
      · exact l1
  have len : ∀ b, (nxL b d t r).length ≤ 99999 := by
    intro b
    have := putL_len d.l t (nxN b d t r)
    unfold nxL
    omega
  have mx : 0 ≤ Dly.mx0 t ∧ Dly.mx0 t ≤ 9223372036854775807 := by unfold Dly.mx0; split <;> omega
  refine allSay_append ⟨hb, trivial⟩ (allSay_append a1.1 (allSay_append b1.1 (allSay_append ⟨by rw [ic, inR_mean]; rfl, by rw [ic, inR_mean]; rfl, ic, by rw [Mil.inR_iff.2 ⟨by omega, by omega⟩, Mil.inR_iff.2 ⟨by omega, by omega⟩]; rfl, rfl, rfl, trivial⟩ (allSay_append ?_ ⟨?_, ?_, ?_, inR_mean _ _, trivial⟩))))
  · cases decide (0 ≤ (nxM d t r).since)
    · trivial
    · exact ⟨rfl, trivial⟩
  · exact Dly.refB_false.2 ⟨by omega, hb'.2.1, (nb _).1, (nb _).2⟩
  · exact Dly.pB_is ⟨hh.dec, nn, by omega, hh.a0, fun s hs => ⟨hh.tn s hs, (hh.t s hs).2⟩⟩
  · exact Dly.pB_is ⟨rfl, by have := len (decide (0 ≤ (nxM d t r).since)); omega, h.sp0, h.sp1, mx⟩
end Go.Proofs.YtebibmioiigplaaGreat.Dec

/- Layer 17: the decider: contracts of Next and Put; what they keep. -/
namespace Go.Proofs.YtebibmioiigplaaGreat.Dec
open Go.Eng Go.RowKit Mil Rin
set_option linter.unusedVariables false
set_option linter.unusedSimpArgs false
set_option maxRecDepth 100000
theorem next_since {c : Conf.Cf} {m : Conf.Md} {n : Int} {b : Bool} {la : Int} (h0 : -1 ≤ m.since) (h1 : m.since ≤ la) (h2 : la ≤ n) (hl : 0 ≤ la) : -1 ≤ (Conf.nextA c m n b).since ∧ (Conf.nextA c m n b).since ≤ n := by
  unfold Conf.nextA
  split
  · omega
  · split
    · show -1 ≤ n ∧ n ≤ n; omega
    · split
      · omega
      · split
        · show (-1 : Int) ≤ -1 ∧ (-1 : Int) ≤ n; omega
        · omega
theorem keep_since (m : Conf.Md) (w : Int) : (Conf.keepA m w).since = m.since := by unfold Conf.keepA; split <;> rfl
theorem DcG.next {d : DcS} {m : Nat} (h : DcG d m) (hm : m ≤ 99998) {t r : Int} (hb : badA17 d t r = false) (b : Bool) : DcG (nxD b d t r) (m + 1) := by
  obtain ⟨_, _, _, ht, t1⟩ := h.cond hm hb
  have la := h.la
  obtain ⟨rs1, hs⟩ := h.s
  obtain ⟨rs2, hq⟩ := h.q
  obtain ⟨L, hh⟩ := h.h
  have l1 := limit_bd h.may (ofC_bd d.c (d.s.mean t)).1 (ofC_bd d.c (d.s.mean t)).2 r
  have l2 := limit_bd h.may (ofC_bd d.c (d.q.mean t)).1 (ofC_bd d.c (d.q.mean t)).2 r
  have nb : 0 ≤ nxN b d t r ∧ nxN b d t r ≤ 1000000 := by
    unfold nxN calmy hasty
    cases b
    · exact l1
    · simp only [cond_true]; split
      · exact l2
      · exact l1
  have ns := next_since (c := d.c) (m := ⟨d.si, d.mo⟩) (n := t) (b := Conf.overC d.c (hasty d t) r) h.si h.sl ht la
  have ks : (nxK b d t r).since = (nxM d t r).since := keep_since _ _
  have al := h.al
  refine ⟨h.may, ⟨_, (hs.sum (t := t) (by omega) (by omega)).2.1⟩, ⟨_, (hq.sum (t := t) (by omega) (by omega)).2.1⟩, h.sp0, h.sp1, rfl, ?_, ⟨_, hh.put (t := t) (by omega) t1 nb.1 nb.2⟩, ?_, ?_, by show 0 ≤ t; omega, Int.le_refl _⟩
  · show (nxL b d t r).length ≤ m + 1
    have h1 := putL_len d.l t (nxN b d t r)
    have h2 := h.n1
    have h3 := h.n
    unfold nxL; omega
  · show -1 ≤ (nxK b d t r).since; rw [ks]; exact ns.1
  · show (nxK b d t r).since ≤ t; rw [ks]; exact ns.2
noncomputable def DcS.put (d : DcS) (t v : Int) : DcS := ⟨d.c, d.gm, d.om, d.s.put t v, d.q.put t v, d.sp, d.a, d.n, d.l, d.si, d.mo, d.la⟩
noncomputable def puC (d : DcS) (t v : Int) : List (Bool × Bool) := putC d.s t v ++ ([((0 : Int) != 0, false)] ++ putC d.q t v)
theorem dput_w0 (d : DcS) (t v : Int) : T.path [true, true, true] (T.anon (dputE [.ptr 0 0, Eng.iv t, Eng.iv v] (decH d))) = some ([(decide (0 < d.s.n), true), (badA t v, true), ((1 : Int) != 0, true)], (Eng.iv 1, decH d)) := by kernel_rfl
theorem dput_w1 (d : DcS) (t v : Int) : T.path [true, false, true, false, true, false, true] (T.anon (dputE [.ptr 0 0, Eng.iv t, Eng.iv v] (decH d))) = some (puC d t v, (Eng.iv 0, decH (d.put t v))) := by kernel_rfl
/-- what a call of Put asks -/
def okP17 (d : DcS) (t v : Int) : Prop := badA t v = false ∧ v ≤ 9223372036854775807 ∧ (∃ rs, HoldsR d.s rs ∧ rs.length < 1000000) ∧ ∃ rs, HoldsR d.q rs ∧ rs.length < 1000000
noncomputable def dputS : Eng.Obj := fun args h => match args with
  | [.ptr 0 0, .s (.int .i64 t), .s (.int .i64 v)] => opt (asDc h) fun d => .ite none (Dly.pB (okP17 d t v)) (.ret (Eng.iv 0, decH (d.put t v))) .fail
  | _ => .fail
theorem dputS_ok : ObjOk Tryz.prog 8 dputS := dputE_ok.of_eval fun args h r hv => by
  unfold dputS at hv
  split at hv
  · rename_i t v
    obtain ⟨d, hd, hv⟩ := opt_eval hv
    have := asDc_ok hd
    subst this
    obtain ⟨hc, hv⟩ := ite_some hv
    obtain rfl := Option.some.inj hv
    obtain ⟨hb, v1, ⟨rs, hs, l1⟩, rs2, hq, l2⟩ := Dly.pB_ok hc
    obtain ⟨t0, t1, v0⟩ := badA_false.1 hb
    rw [← T.eval_anon (t := dputE _ _)]
    exact T.path_eval (dput_w1 d t v) (allSay_append (hs.put t0 t1 v0 v1 l1).1 (allSay_append ⟨rfl, trivial⟩ (hq.put t0 t1 v0 v1 l2).1))
  · cases hv
theorem ite_T {α : Type} {c : Bool} {x y : T α} {r : α} (h : (T.ite none c x y).eval = some r) (hc : c = true) : x.eval = some r := by rw [hc] at h; exact h
theorem ite_F {α : Type} {c : Bool} {x y : T α} {r : α} (h : (T.ite none c x y).eval = some r) (hc : c = false) : y.eval = some r := by rw [hc] at h; exact h
/-- what a call of Next asks -/
def okN17 (d : DcS) (t r : Int) : Prop := DcG d 99998 ∧ badA17 d t r = false
noncomputable def nexS : Eng.Obj := fun args h => match args with
  | [.ptr 0 0, .s (.int .i64 t), .s (.int .i64 r)] => opt (asDc h) fun d => .ite none (Dly.pB (okN17 d t r)) (.ite none (decide (0 ≤ (nxM d t r).since)) (.ret (.tup [nxV true d t r, Eng.iv 0], decR (nxD true d t r))) (.ret (.tup [nxV false d t r, Eng.iv 0], decR (nxD false d t r)))) .fail
  | _ => .fail
theorem nex_run {d : DcS} {t r : Int} {x : V × Heap} (hv : (T.ite none (Dly.pB (okN17 d t r)) (.ite none (decide (0 ≤ (nxM d t r).since)) (.ret (.tup [nxV true d t r, Eng.iv 0], decR (nxD true d t r))) (.ret (.tup [nxV false d t r, Eng.iv 0], decR (nxD false d t r)))) .fail).eval = some x) : (nexE [.ptr 0 0, Eng.iv t, Eng.iv r] (decH d)).eval = some x := by
  obtain ⟨hc, hv⟩ := ite_some hv
  obtain ⟨hg, hb⟩ := Dly.pB_ok hc
  obtain ⟨b, h1, h2, _⟩ := hg.cond (by omega) hb
  rw [← T.eval_anon (t := nexE _ _)]
  cases hs : decide (0 ≤ (nxM d t r).since) with
  | true =>
    obtain rfl := Option.some.inj (ite_T hv hs)
    rw [hs] at h2; subst h2
    exact T.path_eval (nex_w true d t r) h1
  | false =>
    obtain rfl := Option.some.inj (ite_F hv hs)
    rw [hs] at h2; subst h2
    exact T.path_eval (nex_w false d t r) h1
theorem nexS_ok : ObjOk Tryz.prog 12 nexS := nexE_ok.of_eval fun args h x hv => by
  unfold nexS at hv
  split at hv
  · rename_i t r
    obtain ⟨d, hd, hv1⟩ := opt_eval hv
    have := nex_run hv1
    rw [asDc_ok hd]
    exact this
  · cases hv
end Go.Proofs.YtebibmioiigplaaGreat.Dec

/- Layers 17, 26: what they tell of a few: closed runs. -/
namespace Go.Proofs.YtebibmioiigplaaGreat.Dec
open Go.Eng Go.RowKit Mil Rin
set_option linter.unusedVariables false
set_option linter.unusedSimpArgs false
set_option maxRecDepth 100000
noncomputable def Y1 : Cfg := ⟨Tryz.prog, lookG [(103, .val Conf.limitS2), (73, .val Conf.isS), (101, .val Conf.keepS), (100, .obj (Eng.Obj.plain Del.putD)), (102, .obj (Eng.Obj.plain Del.mostD)), (37, .val Conf.mostS)], [], 0⟩
theorem Y1_ok : Y1.Ok := Cfg.ok ⟨Conf.ratelimit_ok, Conf.is_ok, Conf.keep_ok, Del.putD_ok.plain, Del.mostD_ok.plain, Conf.most_ok, trivial⟩ trivial
noncomputable def pacT : Eng.Obj := execO Y1 noLoops 72
theorem pacT_ok : ObjOk Tryz.prog 72 pacT := execO_plain Y1_ok mixed Tryz.func72 (by kernel_rfl) (by kernel_rfl)
noncomputable def setT : Eng.Obj := execO Y1 noLoops 71
theorem setT_ok : ObjOk Tryz.prog 71 setT := execO_plain Y1_ok mixed Tryz.func71 (by kernel_rfl) (by kernel_rfl)
noncomputable def Y2 : Cfg := ⟨Tryz.prog, lookG [(32, .obj (Eng.Obj.plain madE)), (72, .obj (Eng.Obj.plain pacT)), (71, .obj (Eng.Obj.plain setT)), (68, .obj (Eng.Obj.plain Met.mmeaT)), (55, .val Conf.ofS), (70, .val Conf.overS), (69, .val Conf.nextS), (73, .val Conf.isS), (74, .val Conf.excS)], EB, 0⟩
theorem Y2_ok : Y2.Ok := Cfg.ok ⟨madE_ok.plain, pacT_ok.plain, setT_ok.plain, Met.mmeaT_ok.plain, Conf.of_ok, Conf.over_ok, Conf.next_ok, Conf.is_ok, Conf.exc_ok, trivial⟩ EB_ok
noncomputable def judT : Eng.Obj := execO Y2 noLoops 41
theorem judT_ok : ObjOk Tryz.prog 41 judT := execO_plain Y2_ok mixed Tryz.func41 (by kernel_rfl) (by kernel_rfl)
noncomputable def Y3 : Cfg := ⟨Tryz.prog, lookG [(32, .obj (Eng.Obj.plain madE)), (41, .obj (Eng.Obj.plain judT)), (33, .obj (Eng.Obj.plain Met.mputT)), (35, .obj (Eng.Obj.plain Met.chT)), (52, .obj (Eng.Obj.plain Met.ovE)), (36, .obj (Eng.Obj.plain Del.spanD)), (24, .val Conf.mayS), (37, .val Conf.mostS), (27, .val Conf.calmS), (25, .obj (Eng.Obj.plain Met.newT)), (26, .obj (Eng.Obj.plain Del.newD))], EB, 0⟩
theorem Y3_ok : Y3.Ok := Cfg.ok ⟨madE_ok.plain, judT_ok.plain, Met.mputT_ok.plain, Met.chT_ok.plain, Met.ovE_ok.plain, Del.spanD_ok.plain, Conf.may_ok, Conf.most_ok, Conf.calm_ok, Met.newT_ok.plain, Del.newD_ok.plain, trivial⟩ EB_ok
noncomputable def nexT : Eng.Obj := execO Y3 noLoops 12
theorem nexT_ok : ObjOk Tryz.prog 12 nexT := execO_plain Y3_ok mixed Tryz.func12 (by kernel_rfl) (by kernel_rfl)
noncomputable def dputT : Eng.Obj := execO Y3 noLoops 8
theorem dputT_ok : ObjOk Tryz.prog 8 dputT := execO_plain Y3_ok mixed Tryz.func8 (by kernel_rfl) (by kernel_rfl)
noncomputable def dneT : Eng.Obj := execO Y3 noLoops 5
theorem dneT_ok : ObjOk Tryz.prog 5 dneT := execO_plain Y3_ok mixed Tryz.func5 (by kernel_rfl) (by kernel_rfl)
noncomputable def dchT : Eng.Obj := execO Y3 noLoops 10
theorem dchT_ok : ObjOk Tryz.prog 10 dchT := execO_plain Y3_ok mixed Tryz.func10 (by kernel_rfl) (by kernel_rfl)
noncomputable def dmoT : Eng.Obj := execO Y3 noLoops 14
theorem dmoT_ok : ObjOk Tryz.prog 14 dmoT := execO_plain Y3_ok mixed Tryz.func14 (by kernel_rfl) (by kernel_rfl)
noncomputable def dovT : Eng.Obj := execO Y3 noLoops 15
theorem dovT_ok : ObjOk Tryz.prog 15 dovT := execO_plain Y3_ok mixed Tryz.func15 (by kernel_rfl) (by kernel_rfl)
noncomputable def Y4 : Cfg := ⟨Tryz.prog, lookG [(5, .obj (Eng.Obj.plain dneT)), (12, .obj (Eng.Obj.plain nexT)), (8, .obj (Eng.Obj.plain dputT)), (10, .obj (Eng.Obj.plain dchT)), (14, .obj (Eng.Obj.plain dmoT)), (15, .obj (Eng.Obj.plain dovT)), (31, .val Conf.dfltS)], [43], 0⟩
theorem eD : EOk Tryz.prog [43] := ⟨⟨by kernel_rfl, by kernel_rfl⟩, trivial⟩
theorem Y4_ok : Y4.Ok := Cfg.ok ⟨dneT_ok.plain, nexT_ok.plain, dputT_ok.plain, dchT_ok.plain, dmoT_ok.plain, dovT_ok.plain, Conf.refdflt_ok, trivial⟩ eD
noncomputable def tol17 : Eng.Spec := execS Y4 noLoops 7
theorem tol17_ok : SpecOk Tryz.prog 7 tol17 := execS_plain Y4_ok mixed Tryz.func7 (by kernel_rfl) (by kernel_rfl)
end Go.Proofs.YtebibmioiigplaaGreat.Dec

/- Layer 17: what is told of a few. -/
namespace Go.Proofs.YtebibmioiigplaaGreat.Dec
open Go.Eng Go.RowKit Mil Rin
set_option linter.unusedVariables false
set_option linter.unusedSimpArgs false
set_option maxRecDepth 100000
theorem tol17_run : (tol17 []).eval = some (.s (.bool true)) := by kernel_rfl
theorem told17_ok : SpecOk Tryz.prog 7 yesR :=
  tol17_ok.of_den fun args v _ h => by
    unfold yesR at h
    split at h
    · simp only [T.eval, Option.some.injEq] at h
      subst h
      exact ⟨_, tol17_run, ⟨rfl, rfl⟩, rfl⟩
    · cases h
end Go.Proofs.YtebibmioiigplaaGreat.Dec

/- Layer 11: MetricKeeps, MetricSudden: what they call. -/
namespace Go.Proofs.YtebibmioiigplaaGreat.Met
open Go.Eng Go.RowKit Mil Rin
set_option linter.unusedVariables false
set_option linter.unusedSimpArgs false
abbrev wU (n : Int) : Int := IntKind.wrap .u64 n
end Go.Proofs.YtebibmioiigplaaGreat.Met

/- Layer 11: MetricKeeps, MetricSudden: their loops. -/
namespace Go.Proofs.YtebibmioiigplaaGreat.Met
open Go.Eng Go.RowKit Mil Rin
set_option linter.unusedVariables false
set_option linter.unusedSimpArgs false
set_option maxRecDepth 100000
structure M2S where
  gm : Int
  om : Bool
  s : RS
  q : RS
end Go.Proofs.YtebibmioiigplaaGreat.Met

/- Layer 11: rings in which one value was put at each tick. -/
namespace Go.Proofs.YtebibmioiigplaaGreat.Met
open Go.Eng Go.RowKit Mil Rin
set_option linter.unusedVariables false
set_option linter.unusedSimpArgs false
abbrev Rec := Rin.Rec
/-- what was put at the ticks 0 to k less one -/
def recs (f : Nat → Int) (k : Nat) : List Rec := (List.range k).map fun (i : Nat) => ((i : Int), f i)
theorem recs_next (f : Nat → Int) (k : Nat) : recs f (k + 1) = recs f k ++ [((k : Int), f k)] := by
  unfold recs; rw [List.range_succ, List.map_append]; rfl
theorem recs_len (f : Nat → Int) (k : Nat) : (recs f k).length = k := by unfold recs; simp
theorem recs_mem {f : Nat → Int} {k : Nat} {p : Rec} (h : p ∈ recs f k) : ∃ i, i < k ∧ p = ((i : Int), f i) := by
  unfold recs at h
  obtain ⟨i, hi, rfl⟩ := List.mem_map.1 h
  exact ⟨i, List.mem_range.1 hi, rfl⟩
/-- those from lo on -/
def fromR (lo : Int) (rs : List Rec) : List Rec := rs.filter fun p => decide (lo ≤ p.1)
theorem from_next (f : Nat → Int) (lo : Int) (k : Nat) : fromR lo (recs f (k + 1)) = fromR lo (recs f k) ++ (if lo ≤ (k : Int) then [((k : Int), f k)] else []) := by
  unfold fromR
  rw [recs_next, List.filter_append]
  congr 1
  by_cases h : lo ≤ (k : Int)
  · rw [if_pos h, List.filter_cons, if_pos (by exact decide_eq_true h)]; rfl
  · rw [if_neg h, List.filter_cons, if_neg (by rw [decide_eq_false h]; simp)]; rfl
theorem from_none (f : Nat → Int) (lo : Int) : ∀ k : Nat, (k : Int) ≤ lo → fromR lo (recs f k) = []
  | 0, _ => rfl
  | k + 1, h => by rw [from_next, from_none f lo k (by omega), if_neg (by omega)]; rfl
theorem from_len (f : Nat → Int) {lo : Int} (h0 : 0 ≤ lo) : ∀ k : Nat, lo ≤ (k : Int) → ((fromR lo (recs f k)).length : Int) = k - lo
  | 0, h => by have : lo = 0 := by omega
               subst this; rfl
  | k + 1, h => by
    rw [from_next]
    by_cases q : lo ≤ (k : Int)
    · rw [if_pos q, List.length_append]
      have := from_len f h0 k q
      simp only [List.length_cons, List.length_nil]
      omega
    · rw [if_neg q, List.append_nil, from_none f lo k (by omega)]
      simp only [List.length_nil]; omega
theorem sv_le {B : Int} : ∀ {rs : List Rec}, (∀ p ∈ rs, p.2 ≤ B) → Rin.sv rs ≤ rs.length * B
  | [], _ => by simp [Rin.sv]
  | p :: r, h => by
    have h1 := sv_le (rs := r) fun q hq => h q (List.mem_cons_of_mem _ hq)
    have h2 := h p List.mem_cons_self
    rw [sv_cons, List.length_cons]
    have : ((r.length + 1 : Nat) : Int) * B = r.length * B + B := by rw [Int.natCast_add, Int.add_mul]; omega
    omega
/-- a window over such records -/
theorem wn_from (f : Nat → Int) (lo hi : Int) (k : Nat) (h : (k : Int) ≤ hi) : wn lo hi (recs f k) = fromR lo (recs f k) := by
  unfold wn fromR
  apply List.filter_congr
  intro p hp
  obtain ⟨i, hi', rfl⟩ := recs_mem hp
  rw [decide_eq_true (show (i : Int) < hi by omega), Bool.and_true]
/-- a ring of the width w at grain 1 that holds these -/
structure Tick (s : RS) (w : Int) (f : Nat → Int) (k : Nat) : Prop where
  h : HoldsR s (recs f k)
  w : s.w = w
  g : s.g = 1
  nw : s.nw = (k : Int) - 1
  ov : s.ov = false
theorem Tick.n {s : RS} {w : Int} {f : Nat → Int} {k : Nat} (h : Tick s w f k) : (s.n : Int) = w ∧ 1 ≤ w ∧ w ≤ 600 := by
  have h1 := h.h.sn
  have h2 := h.h.g2
  have h3 := h.h.w1
  rw [h.g, h.w] at *
  rw [h1]
  exact ⟨nN_one h2, h2, h3⟩
theorem Tick.new {w : Int} (h : 1 ≤ w) (h2 : w ≤ 600) (f : Nat → Int) : Tick (RS.new w 1) w f 0 := ⟨HoldsR.new (by omega) h h2, rfl, rfl, rfl, rfl⟩
theorem Tick.put {s : RS} {w : Int} {f : Nat → Int} {k : Nat} (h : Tick s w f k) (hk : k < 100000) {v : Int} (hv : f k = v) (v0 : 0 ≤ v) (v1 : v ≤ 9223372036854775807) : allSay (putC s (k : Int) v) ∧ Tick (s.put (k : Int) v) w f (k + 1) := by
  obtain ⟨n1, n2, n3⟩ := h.n
  obtain ⟨c, hp⟩ := h.h.put (t := (k : Int)) (by omega) (by omega) v0 v1 (by rw [recs_len]; omega)
  have e : Int.tdiv (k : Int) s.g = (k : Int) := by rw [h.g, Int.tdiv_one]
  have em : mxR s.nw (k : Int) = (k : Int) := mxR_r (by rw [h.nw]; omega)
  rw [e, putRs_in (by rw [em]; omega), ← hv, ← recs_next] at hp
  rw [hv] at hp
  refine ⟨c, hp, h.w, h.g, ?_, h.ov⟩
  show mxR s.nw (Int.tdiv (k : Int) s.g) = _
  rw [e, em]; omega
/-- where its window begins at t -/
def loT (w t : Int) : Int := if 0 > t - w + 1 then 0 else t - w + 1
theorem Tick.mean {s : RS} {w : Int} {f : Nat → Int} {k : Nat} (h : Tick s w f k) (hk : k < 100000) (hf : ∀ i, 0 ≤ f i ∧ f i ≤ 1000000000) {t : Int} (t0 : 0 ≤ t) (t1 : (k : Int) - 1 ≤ t) (t2 : t ≤ 100000) :
    allSay (sumC s t) ∧ Tick (s.sum t) w f k ∧ (s.sumA t).s = Rin.sv (fromR (loT w t) (recs f k)) ∧ (s.sumA t).c = ((fromR (loT w t) (recs f k)).length : Int) := by
  obtain ⟨n1, n2, n3⟩ := h.n
  obtain ⟨c, hp, hs⟩ := h.h.sum t0 (by omega)
  obtain ⟨s1, s2, s3⟩ := smV_s hs
  have e : Int.tdiv t s.g = t := by rw [h.g, Int.tdiv_one]
  have el : frR s.n s.nw t = loT w t := by
    unfold frR loT
    rw [mxR_l (show s.nw ≤ t by rw [h.nw]; omega), n1]
  rw [e, el, wn_from f _ _ k (by omega)] at s1 s2 s3
  have hm : ∀ p ∈ fromR (loT w t) (recs f k), 0 ≤ p.2 ∧ p.2 ≤ 1000000000 := by
    intro p hp
    obtain ⟨i, _, rfl⟩ := recs_mem (List.mem_filter.1 hp).1
    exact hf i
  have hl : (fromR (loT w t) (recs f k)).length ≤ k := by
    have := List.length_filter_le (fun p : Rec => decide (loT w t ≤ p.1)) (recs f k)
    rw [recs_len] at this; exact this
  have b0 := sv_nonneg fun p hp => (hm p hp).1
  have b1 := sv_le fun p hp => (hm p hp).2
  have b2 : Rin.sv (fromR (loT w t) (recs f k)) ≤ 100000 * 1000000000 := by
    have : ((fromR (loT w t) (recs f k)).length : Int) * 1000000000 ≤ 100000 * 1000000000 := Int.mul_le_mul_of_nonneg_right (by omega) (by omega)
    omega
  refine ⟨c, ⟨hp, h.w, h.g, h.nw, ?_⟩, ?_, s2⟩
  · show (bif s.ov then true else (s.sumA t).k) = false
    rw [h.ov, s3]; exact decide_eq_false (by unfold tpI; omega)
  · rw [s1, cut_small b0 (by omega)]
/-! ### x for a hundred ticks, then y -/
def stepF (x y : Int) (i : Nat) : Int := if i < 100 then x else y
theorem stepF_sv (x y : Int) {lo : Int} (h0 : 0 ≤ lo) : ∀ k : Nat, lo ≤ (k : Int) → Rin.sv (fromR lo (recs (stepF x y) k)) = (min (k : Int) 100 - min lo 100) * x + (max (k : Int) 100 - max lo 100) * y
  | 0, h => by
    have : lo = 0 := by omega
    subst this
    show (0 : Int) = _
    simp
  | k + 1, h => by
    rw [from_next]
    by_cases q : lo ≤ (k : Int)
    · rw [if_pos q, sv_append, stepF_sv x y h0 k q, sv_cons, sv_nil, Int.add_zero]
      by_cases r : k < 100
      · rw [show stepF x y k = x from if_pos r, show min ((k + 1 : Nat) : Int) 100 = min (k : Int) 100 + 1 by omega, show max ((k + 1 : Nat) : Int) 100 = max (k : Int) 100 by omega, show min (k : Int) 100 + 1 - min lo 100 = (min (k : Int) 100 - min lo 100) + 1 by omega, Int.add_mul]
        omega
      · rw [show stepF x y k = y from if_neg r, show min ((k + 1 : Nat) : Int) 100 = min (k : Int) 100 by omega, show max ((k + 1 : Nat) : Int) 100 = max (k : Int) 100 + 1 by omega, show max (k : Int) 100 + 1 - max lo 100 = (max (k : Int) 100 - max lo 100) + 1 by omega, Int.add_mul]
        omega
    · have e : lo = ((k + 1 : Nat) : Int) := by omega
      rw [if_neg q, List.append_nil, from_none _ lo k (by omega), e, Int.sub_self, Int.sub_self]
      simp [Rin.sv]
theorem stepF_mean (x y w : Int) (w1 : 1 ≤ w) (w2 : w ≤ 100) (k : Nat) (h : 100 ≤ k) (h2 : k < 200) : Rin.sv (fromR (loT w (k : Int)) (recs (stepF x y) (k + 1))) = min ((k : Int) - 99) w * y + (w - min ((k : Int) - 99) w) * x ∧ ((fromR (loT w (k : Int)) (recs (stepF x y) (k + 1))).length : Int) = w := by
  have hl : loT w (k : Int) = (k : Int) - w + 1 := by unfold loT; rw [if_neg (by omega)]
  rw [hl]
  refine ⟨?_, ?_⟩
  · rw [stepF_sv x y (by omega) (k + 1) (by omega)]
    by_cases q : (k : Int) - w + 1 ≤ 100
    · rw [show min ((k : Int) - 99) w = (k : Int) - 99 by omega, show min ((k + 1 : Nat) : Int) 100 - min ((k : Int) - w + 1) 100 = w - ((k : Int) - 99) by omega, show max ((k + 1 : Nat) : Int) 100 - max ((k : Int) - w + 1) 100 = (k : Int) - 99 by omega]
      omega
    · rw [show min ((k : Int) - 99) w = w by omega, show min ((k + 1 : Nat) : Int) 100 - min ((k : Int) - w + 1) 100 = 0 by omega, show max ((k + 1 : Nat) : Int) 100 - max ((k : Int) - w + 1) 100 = w by omega, Int.sub_self]
      omega
  · rw [from_len _ (by omega) (k + 1) (by omega)]; omega
end Go.Proofs.YtebibmioiigplaaGreat.Met

/- Layer 17: the laws' ground: a decider through Put and Next. -/
namespace Go.Proofs.YtebibmioiigplaaGreat.Dec
open Go.Eng Go.RowKit Mil Rin
set_option linter.unusedVariables false
set_option linter.unusedSimpArgs false
set_option maxRecDepth 100000
theorem putRs_len (n : Nat) (t a : Int) (v : Int) (rs : List Rin.Rec) : (putRs n t a v rs).length ≤ rs.length + 1 := by
  unfold putRs
  cases decide (mxR t a - n < a)
  · show rs.length ≤ _; omega
  · show (rs ++ [(a, v)]).length ≤ _; rw [List.length_append]; exact Nat.le_refl _
theorem putRs_mem {n : Nat} {t a : Int} {v : Int} {rs : List Rin.Rec} {p : Rin.Rec} (h : p ∈ putRs n t a v rs) : p ∈ rs ∨ p.2 = v := by
  unfold putRs at h
  cases hd : decide (mxR t a - n < a) with
  | false => rw [hd] at h; exact .inl h
  | true =>
    rw [hd] at h
    rcases List.mem_append.1 h with h | h
    · exact .inl h
    · rw [List.mem_singleton.1 h]; exact .inr rfl
/-- a ring of at most m values of at most B -/
structure RBd (s : RS) (B : Int) (m : Nat) : Prop where
  h : ∃ rs, HoldsR s rs ∧ rs.length ≤ m ∧ ∀ p ∈ rs, 0 ≤ p.2 ∧ p.2 ≤ B
  ov : s.ov = false
theorem RBd.new {w g B : Int} (h1 : 1 ≤ g) (h2 : g ≤ w) (h3 : w ≤ 600) : RBd (RS.new w g) B 0 := ⟨⟨[], HoldsR.new h1 h2 h3, Nat.le_refl _, fun p hp => by cases hp⟩, rfl⟩
theorem RBd.mono {s : RS} {B : Int} {m n : Nat} (h : RBd s B m) (hn : m ≤ n) : RBd s B n := by
  obtain ⟨rs, h1, h2, h3⟩ := h.h
  exact ⟨⟨rs, h1, Nat.le_trans h2 hn, h3⟩, h.ov⟩
theorem RBd.put {s : RS} {B : Int} {m : Nat} (h : RBd s B m) (hm : m < 1000000) {t v : Int} (t0 : 0 ≤ t) (t1 : t ≤ 1099511627776) (v0 : 0 ≤ v) (v1 : v ≤ B) (hB : B ≤ 9223372036854775807) : allSay (putC s t v) ∧ RBd (s.put t v) B (m + 1) := by
  obtain ⟨rs, h1, h2, h3⟩ := h.h
  obtain ⟨c, hp⟩ := h1.put t0 t1 v0 (by omega) (by omega)
  refine ⟨c, ⟨⟨_, hp, ?_, ?_⟩, h.ov⟩⟩
  · have := putRs_len s.n s.nw (Int.tdiv t s.g) v rs; omega
  · intro p hp
    rcases putRs_mem hp with hp | hp
    · exact h3 p hp
    · omega
theorem RBd.sum {s : RS} {B : Int} {m : Nat} (h : RBd s B m) {t : Int} (t0 : 0 ≤ t) (t1 : t ≤ 1099511627776) (hB : 0 ≤ B) (hb : (m : Int) * B ≤ 4611686018427387904) : allSay (sumC s t) ∧ RBd (s.sum t) B m ∧ 0 ≤ s.mean t ∧ s.mean t ≤ B := by
  obtain ⟨rs, h1, h2, h3⟩ := h.h
  obtain ⟨c, hp, hs⟩ := h1.sum t0 (by omega)
  obtain ⟨s1, s2, s3⟩ := smV_s hs
  have hm : ∀ p ∈ wn (frR s.n s.nw (Int.tdiv t s.g)) (Int.tdiv t s.g + 1) rs, 0 ≤ p.2 ∧ p.2 ≤ B := fun p hp => h3 p (List.mem_filter.1 hp).1
  have hl : (wn (frR s.n s.nw (Int.tdiv t s.g)) (Int.tdiv t s.g + 1) rs).length ≤ m := Nat.le_trans (List.length_filter_le _ _) h2
  revert s1 s2 s3 hm hl
  generalize wn (frR s.n s.nw (Int.tdiv t s.g)) (Int.tdiv t s.g + 1) rs = w
  intro s1 s2 s3 hm hl
  have b0 := sv_nonneg fun p hp => (hm p hp).1
  have b1 := Met.sv_le fun p hp => (hm p hp).2
  have b2 : (w.length : Int) * B ≤ (m : Int) * B := Int.mul_le_mul_of_nonneg_right (by omega) hB
  rw [cut_small b0 (by omega)] at s1
  refine ⟨c, ⟨⟨rs, hp, h2, h3⟩, ?_⟩, ?_⟩
  · show (bif s.ov then true else (s.sumA t).k) = false
    rw [h.ov, s3]; exact decide_eq_false (by unfold tpI; omega)
  · unfold RS.mean mnV
    rw [s1, s2]
    cases hz : ((w.length : Int) == 0) with
    | true => exact ⟨Int.le_refl _, hB⟩
    | false =>
      have hne : (w.length : Int) ≠ 0 := by rw [beq_eq_false_iff_ne] at hz; exact hz
      have q0 : 0 ≤ Int.tdiv (sv w) w.length := Int.tdiv_nonneg b0 (by omega)
      have q1 : Int.tdiv (sv w) w.length ≤ B := by
        rw [Int.tdiv_eq_ediv_of_nonneg b0]
        exact Int.ediv_le_of_le_mul (by omega) (by rw [Int.mul_comm]; exact b1)
      have hle : Int.tdiv (sv w) w.length ≤ sv w := by
        rw [Int.tdiv_eq_ediv_of_nonneg b0]
        exact Int.ediv_le_self _ b0
      show 0 ≤ wI (Int.tdiv (sv w) w.length) ∧ wI (Int.tdiv (sv w) w.length) ≤ B
      rw [show wI (Int.tdiv (sv w) w.length) = Int.tdiv (sv w) w.length from wrap64_in (by omega) (by omega)]
      exact ⟨q0, q1⟩
/-- a decider after m calls, of values of at most B -/
structure DcR (d : DcS) (B : Int) (m : Nat) : Prop where
  g : DcG d m
  s : RBd d.s B m
  q : RBd d.q B m
  om : d.om = false
theorem DcG.mono {d : DcS} {m n : Nat} (h : DcG d m) (hn : m ≤ n) : DcG d n := ⟨h.may, h.s, h.q, h.sp0, h.sp1, h.n, Nat.le_trans h.n1 hn, h.h, h.si, h.sl, h.la, h.al⟩
theorem DcR.put {d : DcS} {B : Int} {m : Nat} (h : DcR d B m) (hm : m < 1000) {t v : Int} (t0 : 0 ≤ t) (t1 : t ≤ 1099511627776) (v0 : 0 ≤ v) (v1 : v ≤ B) (hB : B ≤ 9223372036854775807) : Dly.pB (okP17 d t v) = true ∧ DcR (d.put t v) B (m + 1) := by
  obtain ⟨c1, r1⟩ := h.s.put (by omega) t0 t1 v0 v1 hB
  obtain ⟨c2, r2⟩ := h.q.put (by omega) t0 t1 v0 v1 hB
  obtain ⟨rs1, a1, a2, _⟩ := h.s.h
  obtain ⟨rs2, b1, b2, _⟩ := h.q.h
  refine ⟨Dly.pB_is ⟨badA_false.2 ⟨t0, t1, v0⟩, by omega, ⟨rs1, a1, by omega⟩, rs2, b1, by omega⟩, ⟨⟨h.g.may, ?_, ?_, h.g.sp0, h.g.sp1, h.g.n, Nat.le_succ_of_le h.g.n1, h.g.h, h.g.si, h.g.sl, h.g.la, h.g.al⟩, r1, r2, h.om⟩⟩
  · obtain ⟨rs, x, _⟩ := r1.h; exact ⟨rs, x⟩
  · obtain ⟨rs, x, _⟩ := r2.h; exact ⟨rs, x⟩
theorem badA17_false {d : DcS} {t r : Int} (h1 : d.la ≤ t) (h2 : t ≤ 1099511627776) (h3 : 0 ≤ r) (h4 : r ≤ 100) : badA17 d t r = false := by
  unfold badA17
  rw [decide_eq_false (show ¬ t < d.la by omega), decide_eq_false (show ¬ 1099511627776 < t by omega), decide_eq_false (show ¬ r < 0 by omega), decide_eq_false (show ¬ 100 < r by omega)]; rfl
theorem DcR.next {d : DcS} {B : Int} {m : Nat} (h : DcR d B m) (hm : m < 1000) {t r : Int} (t0 : d.la ≤ t) (t1 : t ≤ 1099511627776) (r0 : 0 ≤ r) (r1 : r ≤ 100) (hB : 0 ≤ B) (hb : (m : Int) * B ≤ 4611686018427387904) : Dly.pB (okN17 d t r) = true ∧ (∀ b, DcR (nxD b d t r) B (m + 1)) ∧ (0 ≤ d.s.mean t ∧ d.s.mean t ≤ B) ∧ 0 ≤ d.q.mean t ∧ d.q.mean t ≤ B := by
  have ba := badA17_false (r := r) t0 t1 r0 r1
  have la := h.g.la
  obtain ⟨_, x1, x2, x3⟩ := h.s.sum (t := t) (by omega) t1 hB hb
  obtain ⟨_, y1, y2, y3⟩ := h.q.sum (t := t) (by omega) t1 hB hb
  exact ⟨Dly.pB_is ⟨h.g.mono (by omega), ba⟩, fun b => ⟨h.g.next (by omega) ba b, x1.mono (by omega), y1.mono (by omega), h.om⟩, ⟨x2, x3⟩, y2, y3⟩
end Go.Proofs.YtebibmioiigplaaGreat.Dec

/- Layer 17: the laws' calls. -/
namespace Go.Proofs.YtebibmioiigplaaGreat.Dec
open Go.Eng Go.RowKit Mil Rin
set_option linter.unusedVariables false
set_option linter.unusedSimpArgs false
set_option maxRecDepth 100000
theorem eL : EOk Tryz.prog [43, 46] := ⟨⟨by kernel_rfl, by kernel_rfl⟩, ⟨by kernel_rfl, by kernel_rfl⟩, trivial⟩
/-- a decider that has measured nothing -/
def DcS.new (c : Conf.Cf) : DcS := ⟨c, c.grain, false, RS.new c.stable c.grain, RS.new c.panic c.grain, c.delay, 0, 0, [], -1, 0, 0⟩
/-- as New gives it -/
def decN (d : DcS) : Heap := [(88, decB d 40 64), (40, .cells 93 [Met.pairV 41 42, Eng.iv d.gm, .ff]), (64, Dly.dlB d.sp d.a 65 d.n), (41, Met.rB d.s 43), (42, Met.rB d.q 44), (65, Dly.stpB d.l), (43, bxB d.s.l [] none), (44, bxB d.q.l [] none)]
noncomputable def dneS : Eng.Obj
  | [.agg [.s (.int .i64 ctarget), .s (.int .i64 cutil), .s (.int .i64 cstable), .s (.int .i64 cpanic), .s (.int .i64 cgrain), .s (.int .i64 cthreshold), .s (.int .i64 cup), .s (.int .i64 cdown), .s (.int .i64 cmin), .s (.int .i64 cmax), .s (.int .i64 cinitial), .s (.int .i64 cgrace), .s (.int .i64 cdelay), .s (.int .i64 cburst), .s (.int .i64 climit), .s (.int .i64 cqueue), .s (.int .i64 ctimeout), .s (.int .i64 cready), .s (.int .i64 csubset), .s (.int .i64 csample)]], [] => .ite none (Conf.mayB ⟨ctarget, cutil, cstable, cpanic, cgrain, cthreshold, cup, cdown, cmin, cmax, cinitial, cgrace, cdelay, cburst, climit, cqueue, ctimeout, cready, csubset, csample⟩) (.ret (.ptr 88 0, decN (DcS.new ⟨ctarget, cutil, cstable, cpanic, cgrain, cthreshold, cup, cdown, cmin, cmax, cinitial, cgrace, cdelay, cburst, climit, cqueue, ctimeout, cready, csubset, csample⟩))) (.ret (.nilPtr, []))
  | _, _ => .fail
theorem dne_w1 (c : Conf.Cf) : T.path [false, false, false, false, false] (T.anon (dneE [.agg (cfL c)] [])) = some ([(!Conf.mayB c, false), (!Conf.mayB c, false), (badN c.stable c.grain, false), (badN c.panic c.grain, false), (!(bif decide (0 ≤ c.delay) then decide (c.delay ≤ 600) else false), false)], (.ptr 88 0, decN (DcS.new c))) := by kernel_rfl
theorem dne_w0 (c : Conf.Cf) : T.path [true] (T.anon (dneE [.agg (cfL c)] [])) = some ([(!Conf.mayB c, true)], (.nilPtr, [])) := by kernel_rfl
theorem badN_false {w g : Int} (h1 : 1 ≤ g) (h2 : g ≤ w) (h3 : w ≤ 600) : badN w g = false := by
  unfold badN
  rw [decide_eq_false (show ¬ g < 1 by omega), decide_eq_false (show ¬ w < g by omega), decide_eq_false (show ¬ 600 < w by omega), decide_eq_false (show ¬ w < 1 by omega)]; rfl
theorem dneS_ok : ObjOk Tryz.prog 5 dneS := dneE_ok.of_eval fun args h r hv => by
  unfold dneS at hv
  split at hv
  · rename_i ctarget cutil cstable cpanic cgrain cthreshold cup cdown cmin cmax cinitial cgrace cdelay cburst climit cqueue ctimeout cready csubset csample
    revert hv
    generalize hc : (⟨ctarget, cutil, cstable, cpanic, cgrain, cthreshold, cup, cdown, cmin, cmax, cinitial, cgrace, cdelay, cburst, climit, cqueue, ctimeout, cready, csubset, csample⟩ : Conf.Cf) = c
    intro hv
    have e : ([.agg [.s (.int .i64 ctarget), .s (.int .i64 cutil), .s (.int .i64 cstable), .s (.int .i64 cpanic), .s (.int .i64 cgrain), .s (.int .i64 cthreshold), .s (.int .i64 cup), .s (.int .i64 cdown), .s (.int .i64 cmin), .s (.int .i64 cmax), .s (.int .i64 cinitial), .s (.int .i64 cgrace), .s (.int .i64 cdelay), .s (.int .i64 cburst), .s (.int .i64 climit), .s (.int .i64 cqueue), .s (.int .i64 ctimeout), .s (.int .i64 cready), .s (.int .i64 csubset), .s (.int .i64 csample)]] : List V) = [.agg (cfL c)] := by rw [← hc]; rfl
    rw [e]
    rw [← T.eval_anon (t := dneE _ _)]
    cases hm : Conf.mayB c with
    | false =>
      obtain rfl := Option.some.inj (ite_F hv hm)
      exact T.path_eval (dne_w0 c) ⟨by rw [hm]; rfl, trivial⟩
    | true =>
      obtain rfl := Option.some.inj (ite_T hv hm)
      have may := Conf.may_of hm
      have h1 := may.grain
      have h2 := may.panic
      have h3 := may.stable
      have h4 := may.delay
      refine T.path_eval (dne_w1 c) ⟨by rw [hm]; rfl, by rw [hm]; rfl, badN_false (by omega) (by omega) (by omega), badN_false (by omega) (by omega) (by omega), ?_, trivial⟩
      rw [decide_eq_true (show 0 ≤ c.delay by omega), decide_eq_true (show c.delay ≤ 600 by omega)]; rfl
  · cases hv
theorem DcR.new {c : Conf.Cf} (hm : Conf.mayB c = true) (B : Int) : DcR (DcS.new c) B 0 := by
  have may := Conf.may_of hm
  have h1 := may.grain
  have h2 := may.panic
  have h3 := may.stable
  have h4 := may.delay
  have r1 : RBd (RS.new c.stable c.grain) B 0 := RBd.new (by omega) (by omega) (by omega)
  have r2 : RBd (RS.new c.panic c.grain) B 0 := RBd.new (by omega) (by omega) (by omega)
  refine ⟨⟨hm, ?_, ?_, by show 0 ≤ c.delay; omega, by show c.delay ≤ 600; omega, rfl, Nat.le_refl _, ⟨[], Dly.Holds.new⟩, by show (-1 : Int) ≤ -1; omega, by show (-1 : Int) ≤ 0; omega, by show (0 : Int) ≤ 0; omega, by show (0 : Int) ≤ 0; omega⟩, r1, r2, rfl⟩
  · obtain ⟨rs, x, _⟩ := r1.h; exact ⟨rs, x⟩
  · obtain ⟨rs, x, _⟩ := r2.h; exact ⟨rs, x⟩
noncomputable def DL : Cfg := ⟨Tryz.prog, lookG [(5, .obj dneS), (12, .obj nexS), (8, .obj dputS), (10, .obj dchE), (14, .obj dmoE), (15, .obj dovE), (7, .val yesR), (31, .val Conf.dfltS), (28, .val Conf.mayS), (40, .val Conf.mostS), (80, .val Conf.mostS2), (79, .val Conf.leastS2)], [43, 46], 0⟩
theorem DL_ok : DL.Ok := Cfg.ok ⟨dneS_ok, nexS_ok, dputS_ok, dchE_ok, dmoE_ok, dovE_ok, told17_ok, Conf.refdflt_ok, Conf.refmay_ok, Conf.refmost_ok, Conf.refmost2_ok, Conf.refleast_ok, trivial⟩ eL
end Go.Proofs.YtebibmioiigplaaGreat.Dec

