import Derived.Test.YtebibmioiigplaaGG
import Derived.Test.YtebibmioiigplaaGP
/- Layer 25: what is told of a few: closed runs. -/
namespace Go.Proofs.Ytebibmioiigplaa.Tow
open Go.Eng Go.RowKit
set_option linter.unusedVariables false
set_option linter.unusedSimpArgs false
set_option maxRecDepth 100000
theorem mixed : Try.prog.follows .mixedOrders = true := Checked.mixed Try.checked
noncomputable def T0 : Cfg := ⟨Try.prog, lookG [], [], 0⟩
theorem T0_ok : T0.Ok := Cfg.ok trivial trivial
noncomputable def aloE : Eng.Obj := execO T0 noLoops 139
theorem aloE_ok : ObjOk Try.prog 139 aloE := execO_plain T0_ok mixed Try.func139 (by kernel_rfl) (by kernel_rfl)
noncomputable def nxtE : Eng.Obj := execO T0 noLoops 116
theorem nxtE_ok : ObjOk Try.prog 116 nxtE := execO_plain T0_ok mixed Try.func116 (by kernel_rfl) (by kernel_rfl)
noncomputable def balE : Eng.Obj := execO T0 (rounds T0 9 1) 71
theorem balE_ok : ObjOk Try.prog 71 balE := execO_rounds T0_ok mixed 9 1 Try.func71 (by kernel_rfl) (by kernel_rfl)
noncomputable def T1 : Cfg := ⟨Try.prog, lookG [(139, .obj aloE)], [], 0⟩
theorem T1_ok : T1.Ok := Cfg.ok ⟨aloE_ok, trivial⟩ trivial
noncomputable def couE : Eng.Obj := execO T1 (rounds T1 5 1) 113
theorem couE_ok : ObjOk Try.prog 113 couE := execO_rounds T1_ok mixed 5 1 Try.func113 (by kernel_rfl) (by kernel_rfl)
noncomputable def T2 : Cfg := ⟨Try.prog, lookG [(113, .obj (Eng.Obj.plain couE)), (96, .val Conf.mayS), (109, .val Conf.mostS)], [], 0⟩
theorem T2_ok : T2.Ok := Cfg.ok ⟨couE_ok.plain, Conf.may_ok, Conf.most_ok, trivial⟩ trivial
noncomputable def podE : Eng.Obj := execO T2 noLoops 72
theorem podE_ok : ObjOk Try.prog 72 podE := execO_plain T2_ok mixed Try.func72 (by kernel_rfl) (by kernel_rfl)
noncomputable def T3 : Cfg := ⟨Try.prog, lookG [(72, .obj (Eng.Obj.plain podE)), (71, .obj (Eng.Obj.plain balE)), (96, .val Conf.mayS), (109, .val Conf.mostS)], [], 0⟩
theorem T3_ok : T3.Ok := Cfg.ok ⟨podE_ok.plain, balE_ok.plain, Conf.may_ok, Conf.most_ok, trivial⟩ trivial
noncomputable def pasE : Eng.Obj := execO T3 noLoops 115
theorem pasE_ok : ObjOk Try.prog 115 pasE := execO_plain T3_ok mixed Try.func115 (by kernel_rfl) (by kernel_rfl)
noncomputable def T4 : Cfg := ⟨Try.prog, lookG [(115, .obj (Eng.Obj.plain pasE)), (116, .obj nxtE), (96, .val Conf.mayS), (109, .val Conf.mostS)], [], 0⟩
theorem T4_ok : T4.Ok := Cfg.ok ⟨pasE_ok.plain, nxtE_ok, Conf.may_ok, Conf.most_ok, trivial⟩ trivial
noncomputable def steE : Eng.Obj := execO T4 (rounds T4 9 1) 74
theorem steE_ok : ObjOk Try.prog 74 steE := execO_rounds T4_ok mixed 9 1 Try.func74 (by kernel_rfl) (by kernel_rfl)
noncomputable def T5 : Cfg := ⟨Try.prog, lookG [(74, .obj (Eng.Obj.plain steE)), (96, .val Conf.mayS)], [], 0⟩
theorem T5_ok : T5.Ok := Cfg.ok ⟨steE_ok.plain, Conf.may_ok, trivial⟩ trivial
noncomputable def traE : Eng.Obj := execO T5 (rounds T5 5 1) 114
theorem traE_ok : ObjOk Try.prog 114 traE := execO_rounds T5_ok mixed 5 1 Try.func114 (by kernel_rfl) (by kernel_rfl)
noncomputable def T6 : Cfg := ⟨Try.prog, lookG [(74, .obj (Eng.Obj.plain steE)), (114, .obj (Eng.Obj.plain traE)), (72, .obj (Eng.Obj.plain podE)), (71, .obj (Eng.Obj.plain balE)), (50, .val Conf.dfltS)], [], 0⟩
theorem T6_ok : T6.Ok := Cfg.ok ⟨steE_ok.plain, traE_ok.plain, podE_ok.plain, balE_ok.plain, Conf.refdflt_ok, trivial⟩ trivial
noncomputable def tol25 : Eng.Spec := execS T6 noLoops 73
theorem tol25_ok : SpecOk Try.prog 73 tol25 := execS_plain T6_ok mixed Try.func73 (by kernel_rfl) (by kernel_rfl)
end Go.Proofs.Ytebibmioiigplaa.Tow

/- Layer 25: what is told of a few. -/
namespace Go.Proofs.Ytebibmioiigplaa.Tow
open Go.Eng Go.RowKit Rin
set_option linter.unusedVariables false
set_option linter.unusedSimpArgs false
set_option maxRecDepth 100000
theorem tol25_run : (tol25 []).eval = some (.s (.bool true)) := by kernel_rfl
theorem told25_ok : SpecOk Try.prog 73 yesR :=
  tol25_ok.of_den fun args v _ h => by
    unfold yesR at h
    split at h
    · simp only [T.eval, Option.some.injEq] at h
      subst h
      exact ⟨_, tol25_run, ⟨rfl, rfl⟩, rfl⟩
    · cases h
end Go.Proofs.Ytebibmioiigplaa.Tow

/- Layer 25: the tower's functions, run by the machine on open views. -/
namespace Go.Proofs.Ytebibmioiigplaa.Tow
open Go.Eng Go.RowKit Rin
set_option linter.unusedVariables false
set_option linter.unusedSimpArgs false
set_option maxRecDepth 100000
noncomputable def U2 : Cfg := ⟨Try.prog, lookG [(113, .obj couE), (96, .val Conf.mayS), (109, .val Conf.mostS)], [], 0⟩
theorem U2_ok : U2.Ok := Cfg.ok ⟨couE_ok, Conf.may_ok, Conf.most_ok, trivial⟩ trivial
noncomputable def podF : Eng.Obj := execO U2 noLoops 72
theorem podF_ok : ObjOk Try.prog 72 podF := execO_plain U2_ok mixed Try.func72 (by kernel_rfl) (by kernel_rfl)
noncomputable def U3 : Cfg := ⟨Try.prog, lookG [(72, .obj podF), (71, .obj balE), (96, .val Conf.mayS), (109, .val Conf.mostS)], [], 0⟩
theorem U3_ok : U3.Ok := Cfg.ok ⟨podF_ok, balE_ok, Conf.may_ok, Conf.most_ok, trivial⟩ trivial
noncomputable def pasF : Eng.Obj := execO U3 noLoops 115
theorem pasF_ok : ObjOk Try.prog 115 pasF := execO_plain U3_ok mixed Try.func115 (by kernel_rfl) (by kernel_rfl)
noncomputable def U4 : Cfg := ⟨Try.prog, lookG [(115, .obj pasF), (116, .obj nxtE), (96, .val Conf.mayS), (109, .val Conf.mostS)], [], 0⟩
theorem U4_ok : U4.Ok := Cfg.ok ⟨pasF_ok, nxtE_ok, Conf.may_ok, Conf.most_ok, trivial⟩ trivial
noncomputable def steF : Eng.Obj := execO U4 (rounds U4 9 1) 74
theorem steF_ok : ObjOk Try.prog 74 steF := execO_rounds U4_ok mixed 9 1 Try.func74 (by kernel_rfl) (by kernel_rfl)
noncomputable def U6 : Cfg := ⟨Try.prog, lookG [(74, .obj steF), (72, .obj podF), (71, .obj balE), (50, .val Conf.dfltS), (73, .val yesR)], [], 0⟩
theorem U6_ok : U6.Ok := Cfg.ok ⟨steF_ok, podF_ok, balE_ok, Conf.refdflt_ok, told25_ok, trivial⟩ trivial
noncomputable def bouR (a b lo hi e w : Int) : T V := execS U6 noLoops 17 [.s (.int .i64 a), .s (.int .i64 b), .s (.int .i64 lo), .s (.int .i64 hi), .s (.int .i64 e), .s (.int .i64 w)]
end Go.Proofs.Ytebibmioiigplaa.Tow

/- Layer 25: count's loop. -/
namespace Go.Proofs.Ytebibmioiigplaa.Tow
open Go.Eng Go.RowKit Rin
set_option linter.unusedVariables false
set_option linter.unusedSimpArgs false
set_option maxRecDepth 100000
noncomputable def lpCo : Code := loopAt Try.prog 113 0
structure PCo where (vt : Int) (vw : Int) (vp : Bool) (vx : Bool) (n : Nat) (w : Int) (b : Int) (e0 : Int) (e1 : Int) (e2 : Int) (e3 : Int) (e4 : Int) (e5 : Int) (e6 : Int) (vo : Bool) (o : Bool) (l : List (Int × Int × Int × Int)) (k : Nat) (z : Int)
structure ACo where (st : Int) (bu : Int) (i : Int)
abbrev SCo : List (Nat × Src) := [(0, .same), (1, .same), (9, .same)]
def vsCo (p : PCo) (a : ACo) : List V := [.ptr 1 0, .ptr 9 0, .sub 0 4 0 p.k, iv p.z, iv a.i]
def bsCo (p : PCo) (a : ACo) : List Blk := [.lst p.o 95 [.int .i64, .int .i64, .int .i64, .int .i64] p.l, .cells 99 [iv p.vt, iv p.vw, bv p.vp, bv p.vx, .sub 0 4 0 p.n, iv p.w, iv p.b, iv p.e0, iv p.e1, iv p.e2, iv p.e3, iv p.e4, iv p.e5, iv p.e6, bv p.vo], .cells 170 [iv a.st, iv a.bu]]
noncomputable def FCo (p : PCo) (a : ACo) : St := mkSt [1,3,7,8,9] (keysR SCo) 1000 63 (vsCo p a) (bsCo p a)
abbrev SCox : List (Nat × Src) := [(0, .same), (1, .same), (9, .same)]
noncomputable def rdCo (p : PCo) (a : ACo) : T (Ex × St) := T.anon (roundX T1 noLoops lpCo [1,3,7,8,9] SCo [2,3] SCox 1000 1000 (mkSt [1,3,7,8,9] (keysR SCo) 1000 63 (vsCo p a) (bsCo p a)))
def decCo_v0 : V → Option (Unit)
  | .ptr 1 0 => some ()
  | _ => none
theorem decCo_v0_ok (b : V) (x0 : Unit) (h : decCo_v0 b = some x0) : b = .ptr 1 0 := by
  unfold decCo_v0 at h
  split at h
  · cases h
    rfl
  · cases h
def decCo_v1 : V → Option (Unit)
  | .ptr 9 0 => some ()
  | _ => none
theorem decCo_v1_ok (b : V) (x1 : Unit) (h : decCo_v1 b = some x1) : b = .ptr 9 0 := by
  unfold decCo_v1 at h
  split at h
  · cases h
    rfl
  · cases h
def decCo_v2 : V → Option ((Nat))
  | .sub 0 4 0 k => some (k)
  | _ => none
theorem decCo_v2_ok (b : V) (x2 : (Nat)) (h : decCo_v2 b = some x2) : b = .sub 0 4 0 (x2) := by
  unfold decCo_v2 at h
  split at h
  · cases h
    rfl
  · cases h
def decCo_v3 : V → Option ((Int))
  | .s (.int .i64 z) => some (z)
  | _ => none
theorem decCo_v3_ok (b : V) (x3 : (Int)) (h : decCo_v3 b = some x3) : b = iv (x3) := by
  unfold decCo_v3 at h
  split at h
  · cases h
    rfl
  · cases h
def decCo_v4 : V → Option ((Int))
  | .s (.int .i64 i) => some (i)
  | _ => none
theorem decCo_v4_ok (b : V) (x4 : (Int)) (h : decCo_v4 b = some x4) : b = iv (x4) := by
  unfold decCo_v4 at h
  split at h
  · cases h
    rfl
  · cases h
def decCo_b0 : Blk → Option ((Bool) × (List (Int × Int × Int × Int)))
  | .lst o tt0 [.int .i64, .int .i64, .int .i64, .int .i64] l => if tt0 = 95 then some (o, l) else none
  | _ => none
theorem decCo_b0_ok (b : Blk) (y0 : (Bool) × (List (Int × Int × Int × Int))) (h : decCo_b0 b = some y0) : b = .lst (y0.1) 95 [.int .i64, .int .i64, .int .i64, .int .i64] (y0.2) := by
  unfold decCo_b0 at h
  split at h
  · obtain ⟨e0, h⟩ := ite_some0 h
    subst e0
    cases h
    rfl
  · cases h
def decCo_b1 : Blk → Option ((Int) × (Int) × (Bool) × (Bool) × (Nat) × (Int) × (Int) × (Int) × (Int) × (Int) × (Int) × (Int) × (Int) × (Int) × (Bool))
  | .cells tt0 [.s (.int .i64 vt), .s (.int .i64 vw), .s (.bool vp), .s (.bool vx), .sub 0 4 0 n, .s (.int .i64 w), .s (.int .i64 b), .s (.int .i64 e0), .s (.int .i64 e1), .s (.int .i64 e2), .s (.int .i64 e3), .s (.int .i64 e4), .s (.int .i64 e5), .s (.int .i64 e6), .s (.bool vo)] => if tt0 = 99 then some (vt, vw, vp, vx, n, w, b, e0, e1, e2, e3, e4, e5, e6, vo) else none
  | _ => none
theorem decCo_b1_ok (b : Blk) (y1 : (Int) × (Int) × (Bool) × (Bool) × (Nat) × (Int) × (Int) × (Int) × (Int) × (Int) × (Int) × (Int) × (Int) × (Int) × (Bool)) (h : decCo_b1 b = some y1) : b = .cells 99 [iv (y1.1), iv (y1.2.1), bv (y1.2.2.1), bv (y1.2.2.2.1), .sub 0 4 0 (y1.2.2.2.2.1), iv (y1.2.2.2.2.2.1), iv (y1.2.2.2.2.2.2.1), iv (y1.2.2.2.2.2.2.2.1), iv (y1.2.2.2.2.2.2.2.2.1), iv (y1.2.2.2.2.2.2.2.2.2.1), iv (y1.2.2.2.2.2.2.2.2.2.2.1), iv (y1.2.2.2.2.2.2.2.2.2.2.2.1), iv (y1.2.2.2.2.2.2.2.2.2.2.2.2.1), iv (y1.2.2.2.2.2.2.2.2.2.2.2.2.2.1), bv (y1.2.2.2.2.2.2.2.2.2.2.2.2.2.2)] := by
  unfold decCo_b1 at h
  split at h
  · obtain ⟨e0, h⟩ := ite_some0 h
    subst e0
    cases h
    rfl
  · cases h
def decCo_b2 : Blk → Option ((Int) × (Int))
  | .cells tt0 [.s (.int .i64 st), .s (.int .i64 bu)] => if tt0 = 170 then some (st, bu) else none
  | _ => none
theorem decCo_b2_ok (b : Blk) (y2 : (Int) × (Int)) (h : decCo_b2 b = some y2) : b = .cells 170 [iv (y2.1), iv (y2.2)] := by
  unfold decCo_b2 at h
  split at h
  · obtain ⟨e0, h⟩ := ite_some0 h
    subst e0
    cases h
    rfl
  · cases h
def decCo : List V → List Blk → Option (PCo × ACo)
  | [v0, v1, v2, v3, v4], [b0, b1, b2] => (decCo_v0 v0).bind fun x0 => (decCo_v1 v1).bind fun x1 => (decCo_v2 v2).bind fun x2 => (decCo_v3 v3).bind fun x3 => (decCo_v4 v4).bind fun x4 => (decCo_b0 b0).bind fun y0 => (decCo_b1 b1).bind fun y1 => (decCo_b2 b2).bind fun y2 => some (⟨(y1.1), (y1.2.1), (y1.2.2.1), (y1.2.2.2.1), (y1.2.2.2.2.1), (y1.2.2.2.2.2.1), (y1.2.2.2.2.2.2.1), (y1.2.2.2.2.2.2.2.1), (y1.2.2.2.2.2.2.2.2.1), (y1.2.2.2.2.2.2.2.2.2.1), (y1.2.2.2.2.2.2.2.2.2.2.1), (y1.2.2.2.2.2.2.2.2.2.2.2.1), (y1.2.2.2.2.2.2.2.2.2.2.2.2.1), (y1.2.2.2.2.2.2.2.2.2.2.2.2.2.1), (y1.2.2.2.2.2.2.2.2.2.2.2.2.2.2), (y0.1), (y0.2), (x2), (x3)⟩, ⟨(y2.1), (y2.2), (x4)⟩)
  | _, _ => none
theorem decCo_ok (l : List V) (b : List Blk) (d : PCo × ACo) (h : decCo l b = some d) : l = vsCo d.1 d.2 ∧ b = bsCo d.1 d.2 := by
  unfold decCo at h
  split at h
  · obtain ⟨x0, hx0, h⟩ := Option.bind_eq_some_iff.1 h
    obtain ⟨x1, hx1, h⟩ := Option.bind_eq_some_iff.1 h
    obtain ⟨x2, hx2, h⟩ := Option.bind_eq_some_iff.1 h
    obtain ⟨x3, hx3, h⟩ := Option.bind_eq_some_iff.1 h
    obtain ⟨x4, hx4, h⟩ := Option.bind_eq_some_iff.1 h
    obtain ⟨y0, hy0, h⟩ := Option.bind_eq_some_iff.1 h
    obtain ⟨y1, hy1, h⟩ := Option.bind_eq_some_iff.1 h
    obtain ⟨y2, hy2, h⟩ := Option.bind_eq_some_iff.1 h
    have ex0 := decCo_v0_ok _ _ hx0
    have ex1 := decCo_v1_ok _ _ hx1
    have ex2 := decCo_v2_ok _ _ hx2
    have ex3 := decCo_v3_ok _ _ hx3
    have ex4 := decCo_v4_ok _ _ hx4
    have ey0 := decCo_b0_ok _ _ hy0
    have ey1 := decCo_b1_ok _ _ hy1
    have ey2 := decCo_b2_ok _ _ hy2
    cases h
    subst ex0 ex1 ex2 ex3 ex4 ey0 ey1 ey2
    exact ⟨rfl, rfl⟩
  · cases h
noncomputable def rgCo : Nat := (firstReg lpCo).getD 0
theorem rgCo_is : firstReg lpCo = some rgCo := by kernel_rfl
abbrev Pd := Int × Int × Int × Int
def xP (p : PCo) (a : ACo) : Pd := p.l.getD (0 + a.i.toNat) (0, 0, 0, 0)
def yP (p : PCo) (a : ACo) : Pd := p.l.getD (0 + (IntKind.wrap .i64 (a.i - 1)).toNat) (0, 0, 0, 0)
def b3 (t : Int) (x : Pd) : Bool := bif bif bif decide (x.2.2.2 < 0) then true else decide (t < x.2.2.2) then true else decide (x.2.2.1 < 0) then true else decide (1099511627776 < x.2.2.1)
def hdC (p : PCo) (a : ACo) : List (Bool × Bool) := [(decide (a.i < p.z), true), (idR p.l p.k a.i, true), (ldR p.l a.i, true)]
def lwC (p : PCo) (a : ACo) : Bool := bif decide (0 < a.i) then decide ((xP p a).1 ≤ (yP p a).1) else false
def tlC (c : Bool) (p : PCo) (a : ACo) (f : Bool) : List (Bool × Bool) := [(bif c == false && (decide (0 < a.i) == true && true) then idR p.l p.n (IntKind.wrap .i64 (a.i - 1)) else true, true), (bif c == false && (decide (0 < a.i) == true && true) then ldR p.l (IntKind.wrap .i64 (a.i - 1)) else true, true), (bif c then true else lwC p a, f)]
def tl2 (p : PCo) (a : ACo) (f : Bool) : List (Bool × Bool) := [(bif decide (0 < a.i) == true && true then idR p.l p.n (IntKind.wrap .i64 (a.i - 1)) else true, true), (bif decide (0 < a.i) == true && true then ldR p.l (IntKind.wrap .i64 (a.i - 1)) else true, true), (lwC p a, f)]
def ovC (p : PCo) (a : ACo) : Bool := decide (IntKind.wrap .i64 (p.b - a.bu) < (xP p a).2.2.1)
def fSt (p : PCo) (a : ACo) : St := mkSt [2, 3] [0, 1, 9] 1000 63 [.iface 200 (.agg []), .ptr 9 0] (bsCo p a)
def oSt (p : PCo) (a : ACo) : St := mkSt [2, 3] [0, 1, 9] 1000 63 [.junk, .ptr 9 0] (bsCo p a)
def nxC (p : PCo) (a : ACo) (st : Int) : ACo := ⟨st, IntKind.wrap .i64 (a.bu + (xP p a).2.2.1), IntKind.wrap .i64 (a.i + 1)⟩
def st1 (p : PCo) (a : ACo) : List (Bool × Bool) := [(b3 p.vt (xP p a), false), ((xP p a).2.1 == 1, true)]
def st2 (p : PCo) (a : ACo) : List (Bool × Bool) := [(b3 p.vt (xP p a), false), ((xP p a).2.1 == 1, false), ((xP p a).2.1 == 2, true)]
def st3 (p : PCo) (a : ACo) (f : Bool) : List (Bool × Bool) := [(b3 p.vt (xP p a), false), ((xP p a).2.1 == 1, false), ((xP p a).2.1 == 2, false), ((xP p a).2.1 == 3, f)]
def c1 (p : PCo) (a : ACo) : Bool := !((xP p a).2.2.1 == 0)
def c3 (p : PCo) (a : ACo) : Bool := !decide (0 < (xP p a).2.2.1)
theorem co_wB (p : PCo) (a : ACo) : T.path [true, true, true, true] (rdCo p a) = some (hdC p a ++ [(b3 p.vt (xP p a), true)], (.ret, fSt p a)) := by kernel_rfl
theorem co_wN (p : PCo) (a : ACo) : T.path [true, true, true, false, false, false, false] (rdCo p a) = some (hdC p a ++ st3 p a false, (.ret, fSt p a)) := by kernel_rfl
theorem co_w1f (p : PCo) (a : ACo) : T.path [true, true, true, false, true, true, true, true] (rdCo p a) = some (hdC p a ++ (st1 p a ++ tlC (c1 p a) p a true), (.ret, fSt p a)) := by kernel_rfl
theorem co_w1o (p : PCo) (a : ACo) : T.path [true, true, true, false, true, true, true, false, true] (rdCo p a) = some (hdC p a ++ (st1 p a ++ (tlC (c1 p a) p a false ++ [(ovC p a, true)])), (.ret, fSt p a)) := by kernel_rfl
theorem co_w1n (p : PCo) (a : ACo) : T.path [true, true, true, false, true, true, true, false, false, true] (rdCo p a) = some (hdC p a ++ (st1 p a ++ (tlC (c1 p a) p a false ++ [(ovC p a, false), ((xP p a).2.1 != 3, true)])), (.normal, FCo p (nxC p a (IntKind.wrap .i64 (a.st + 1))))) := by kernel_rfl
theorem co_w2f (p : PCo) (a : ACo) : T.path [true, true, true, false, false, true, true, true, true] (rdCo p a) = some (hdC p a ++ (st2 p a ++ tl2 p a true), (.ret, fSt p a)) := by kernel_rfl
theorem co_w2o (p : PCo) (a : ACo) : T.path [true, true, true, false, false, true, true, true, false, true] (rdCo p a) = some (hdC p a ++ (st2 p a ++ (tl2 p a false ++ [(ovC p a, true)])), (.ret, fSt p a)) := by kernel_rfl
theorem co_w2n (p : PCo) (a : ACo) : T.path [true, true, true, false, false, true, true, true, false, false, true] (rdCo p a) = some (hdC p a ++ (st2 p a ++ (tl2 p a false ++ [(ovC p a, false), ((xP p a).2.1 != 3, true)])), (.normal, FCo p (nxC p a (IntKind.wrap .i64 (a.st + 1))))) := by kernel_rfl
theorem co_w3f (p : PCo) (a : ACo) : T.path [true, true, true, false, false, false, true, true, true, true] (rdCo p a) = some (hdC p a ++ (st3 p a true ++ tlC (c3 p a) p a true), (.ret, fSt p a)) := by kernel_rfl
theorem co_w3o (p : PCo) (a : ACo) : T.path [true, true, true, false, false, false, true, true, true, false, true] (rdCo p a) = some (hdC p a ++ (st3 p a true ++ (tlC (c3 p a) p a false ++ [(ovC p a, true)])), (.ret, fSt p a)) := by kernel_rfl
theorem co_w3n (p : PCo) (a : ACo) : T.path [true, true, true, false, false, false, true, true, true, false, false, false] (rdCo p a) = some (hdC p a ++ (st3 p a true ++ (tlC (c3 p a) p a false ++ [(ovC p a, false), ((xP p a).2.1 != 3, false)])), (.normal, FCo p (nxC p a a.st))) := by kernel_rfl
theorem co_wX (p : PCo) (a : ACo) : T.path [false] (rdCo p a) = some ([(decide (a.i < p.z), false)], (.exit 0, oSt p a)) := by kernel_rfl
/-- may a pod stand so? -/
def alB (t : Int) (x : Pd) : Bool := !b3 t x && ((x.2.1 == 1 && x.2.2.1 == 0) || x.2.1 == 2 || (x.2.1 == 3 && decide (0 < x.2.2.1)))
/-- what count tells -/
def couG (t b : Int) : Option Int → Int → Int → List Pd → Option (Int × Int)
  | _, st, bu, [] => some (st, bu)
  | pv, st, bu, x :: r => if !alB t x || pv.any (fun y => decide (x.1 ≤ y)) || decide (IntKind.wrap .i64 (b - bu) < x.2.2.1) then none else couG t b (some x.1) (if x.2.1 = 3 then st else IntKind.wrap .i64 (st + 1)) (IntKind.wrap .i64 (bu + x.2.2.1)) r
def pvI (l : List Pd) (i : Int) : Option Int := if 0 < i then some (l.getD (i.toNat - 1) (0, 0, 0, 0)).1 else none
structure okCo (p : PCo) (a : ACo) : Prop where
  k : p.k = p.l.length
  z : p.z = p.k
  n : p.n = p.k
  k1 : p.k ≤ 1000000
  i0 : 0 ≤ a.i
  i1 : a.i ≤ p.k
  g : couG p.vt p.b none 0 0 p.l = couG p.vt p.b (pvI p.l a.i) a.st a.bu (p.l.drop a.i.toNat)
def flC (p : PCo) (a : ACo) : Bool := !alB p.vt (xP p a) || lwC p a || ovC p a
def goCo (p : PCo) (a : ACo) : Bool := decide (a.i < p.z) && !flC p a
def muCo (p : PCo) (a : ACo) : Nat := (p.z - a.i).toNat
theorem co_at {p : PCo} {a : ACo} (h : okCo p a) (hi : a.i < p.z) : allSay (hdC p a) ∧ (∃ (q : a.i.toNat < p.l.length), xP p a = p.l[a.i.toNat]) ∧ (0 < a.i → idR p.l p.n (IntKind.wrap .i64 (a.i - 1)) = true ∧ ldR p.l (IntKind.wrap .i64 (a.i - 1)) = true ∧ pvI p.l a.i = some (yP p a).1) ∧ IntKind.wrap .i64 (a.i + 1) = a.i + 1 := by
  obtain ⟨hk, hz, hn, k1, i0, i1, g⟩ := h
  have hl : a.i.toNat < p.l.length := by omega
  obtain ⟨y1, y2⟩ := idR_is (g := p.l) (k := p.k) (i := a.i) hk i0 (by omega)
  have ew : IntKind.wrap .i64 (a.i - 1) = a.i - 1 := wrap64_in (by omega) (by omega)
  refine ⟨⟨decide_eq_true hi, y1, y2, trivial⟩, ⟨hl, getD0 rfl hl⟩, fun h0 => ?_, wrap64_in (by omega) (by omega)⟩
  obtain ⟨z1, z2⟩ := idR_is (g := p.l) (k := p.n) (i := a.i - 1) (by omega) (by omega) (by omega)
  rw [ew]
  refine ⟨z1, z2, ?_⟩
  unfold pvI yP
  rw [if_pos h0, ew, show (a.i - 1).toNat = a.i.toNat - 1 by omega, Nat.zero_add]
theorem co_g {p : PCo} {a : ACo} (h : okCo p a) (hi : a.i < p.z) : couG p.vt p.b none 0 0 p.l = if flC p a = true then none else couG p.vt p.b (some (xP p a).1) (if (xP p a).2.1 = 3 then a.st else IntKind.wrap .i64 (a.st + 1)) (IntKind.wrap .i64 (a.bu + (xP p a).2.2.1)) (p.l.drop (a.i + 1).toNat) := by
  obtain ⟨-, ⟨q, hx⟩, hp, -⟩ := co_at h hi
  have i0 := h.i0
  rw [h.g, List.drop_eq_getElem_cons q, ← hx]
  show (if _ then none else _) = _
  have e : (pvI p.l a.i).any (fun y => decide ((xP p a).1 ≤ y)) = lwC p a := by
    unfold lwC
    by_cases h0 : 0 < a.i
    · rw [(hp h0).2.2, decide_eq_true h0]; rfl
    · unfold pvI; rw [if_neg h0, decide_eq_false h0]; rfl
  rw [e, show (a.i + 1).toNat = a.i.toNat + 1 by omega]
  rfl
theorem co_next {p : PCo} {a : ACo} (h : okCo p a) (hi : a.i < p.z) (hf : flC p a = false) : okCo p (nxC p a (if (xP p a).2.1 = 3 then a.st else IntKind.wrap .i64 (a.st + 1))) ∧ muCo p (nxC p a (if (xP p a).2.1 = 3 then a.st else IntKind.wrap .i64 (a.st + 1))) < muCo p a := by
  obtain ⟨-, ⟨q, hx⟩, hp, ew⟩ := co_at h hi
  have hg := co_g h hi
  rw [hf, if_neg (by decide)] at hg
  obtain ⟨hk, hz, hn, k1, i0, i1, g⟩ := h
  refine ⟨⟨hk, hz, hn, k1, ?_, ?_, ?_⟩, ?_⟩
  · show 0 ≤ IntKind.wrap .i64 (a.i + 1); rw [ew]; omega
  · show IntKind.wrap .i64 (a.i + 1) ≤ p.k; rw [ew]; omega
  · show _ = couG p.vt p.b (pvI p.l (IntKind.wrap .i64 (a.i + 1))) _ _ (p.l.drop (IntKind.wrap .i64 (a.i + 1)).toNat)
    rw [ew, hg]
    unfold pvI
    rw [if_pos (show 0 < a.i + 1 by omega), show (a.i + 1).toNat - 1 = a.i.toNat by omega, List.getD_eq_getElem?_getD, List.getElem?_eq_getElem q, ← hx]
    rfl
  · show (p.z - IntKind.wrap .i64 (a.i + 1)).toNat < (p.z - a.i).toNat
    rw [ew]; omega
/-- the conditions behind the state, when they are asked -/
theorem tl_say {p : PCo} {a : ACo} (h : okCo p a) (hi : a.i < p.z) (c f : Bool) (hf : (bif c then true else lwC p a) = f) : allSay (tlC c p a f) := by
  obtain ⟨-, -, hp, -⟩ := co_at h hi
  refine ⟨?_, ?_, hf, trivial⟩
  · by_cases h0 : 0 < a.i
    · rw [(hp h0).1, decide_eq_true h0]; cases c <;> rfl
    · rw [decide_eq_false h0]; cases c <;> rfl
  · by_cases h0 : 0 < a.i
    · rw [(hp h0).2.1, decide_eq_true h0]; cases c <;> rfl
    · rw [decide_eq_false h0]; cases c <;> rfl
theorem tl2_say {p : PCo} {a : ACo} (h : okCo p a) (hi : a.i < p.z) (f : Bool) (hf : lwC p a = f) : allSay (tl2 p a f) := by
  obtain ⟨-, -, hp, -⟩ := co_at h hi
  refine ⟨?_, ?_, hf, trivial⟩
  · by_cases h0 : 0 < a.i
    · rw [(hp h0).1, decide_eq_true h0]; rfl
    · rw [decide_eq_false h0]; rfl
  · by_cases h0 : 0 < a.i
    · rw [(hp h0).2.1, decide_eq_true h0]; rfl
    · rw [decide_eq_false h0]; rfl
theorem ite_T {α : Type} {c : Bool} {x y : T α} {r : α} (h : (T.ite none c x y).eval = some r) (hc : c = true) : x.eval = some r := by rw [hc] at h; exact h
theorem ite_F {α : Type} {c : Bool} {x y : T α} {r : α} (h : (T.ite none c x y).eval = some r) (hc : c = false) : y.eval = some r := by rw [hc] at h; exact h
theorem beqF {x n : Int} (h : x ≠ n) : (x == n) = false := by rw [beq_eq_false_iff_ne]; exact h
theorem stepCo (p : PCo) (a : ACo) (h : okCo p a) (hg : goCo p a = true) : ∃ b, stepC okCo rdCo FCo muCo p a b := by
  unfold goCo at hg
  rw [Bool.and_eq_true, Bool.not_eq_true'] at hg
  obtain ⟨hi, hf⟩ := hg
  have hi := of_decide_eq_true hi
  obtain ⟨hh, -, -, -⟩ := co_at h hi
  obtain ⟨n1, n2⟩ := co_next h hi hf
  have hf' := hf
  unfold flC at hf'
  rw [Bool.or_eq_false_iff, Bool.or_eq_false_iff, Bool.not_eq_false'] at hf'
  obtain ⟨⟨al, lw⟩, ov⟩ := hf'
  unfold alB at al
  rw [Bool.and_eq_true, Bool.not_eq_true'] at al
  obtain ⟨hb, al⟩ := al
  by_cases s1 : (xP p a).2.1 = 1
  · have e3 : ¬ (xP p a).2.1 = 3 := by omega
    rw [if_neg e3] at n1 n2
    have hc : c1 p a = false := by
      rw [s1] at al
      unfold c1
      simp at al
      rw [al]; rfl
    exact ⟨_, T.path_eval (co_w1n p a) (allSay_append hh (allSay_append ⟨hb, by rw [s1]; rfl, trivial⟩ (allSay_append (tl_say h hi _ _ (by rw [hc]; exact lw)) ⟨ov, by rw [s1]; rfl, trivial⟩))), n1, n2⟩
  · by_cases s2 : (xP p a).2.1 = 2
    · have e3 : ¬ (xP p a).2.1 = 3 := by omega
      rw [if_neg e3] at n1 n2
      exact ⟨_, T.path_eval (co_w2n p a) (allSay_append hh (allSay_append ⟨hb, beqF s1, by rw [s2]; rfl, trivial⟩ (allSay_append (tl2_say h hi _ lw) ⟨ov, by rw [s2]; rfl, trivial⟩))), n1, n2⟩
    · have s3 : (xP p a).2.1 = 3 ∧ 0 < (xP p a).2.2.1 := by
        simp [s1, s2] at al
        exact al
      rw [if_pos s3.1] at n1 n2
      have hc : c3 p a = false := by unfold c3; rw [decide_eq_true s3.2]; rfl
      exact ⟨_, T.path_eval (co_w3n p a) (allSay_append hh (allSay_append ⟨hb, beqF s1, beqF s2, by rw [s3.1]; rfl, trivial⟩ (allSay_append (tl_say h hi _ _ (by rw [hc]; exact lw)) ⟨ov, by rw [s3.1]; rfl, trivial⟩))), n1, n2⟩
noncomputable def outCo (p : PCo) (a : ACo) : T (Ex × St) := .ite none (decide (a.i < p.z)) (.ret (.ret, fSt p a)) (.ret (.exit 0, oSt p a))
theorem exCo (p : PCo) (a : ACo) (h : okCo p a) (hg : goCo p a = false) (r : Ex × St) (hr : (outCo p a).eval = some r) : r.1 ≠ .normal ∧ (rdCo p a).eval = some r := by
  by_cases hi : a.i < p.z
  · have e := Option.some.inj (ite_T hr (decide_eq_true hi))
    subst e
    refine ⟨by simp, ?_⟩
    obtain ⟨hh, -, -, -⟩ := co_at h hi
    have hf : flC p a = true := by
      unfold goCo at hg
      rw [decide_eq_true hi, Bool.true_and, Bool.not_eq_false'] at hg
      exact hg
    cases hb : b3 p.vt (xP p a) with
    | true => exact T.path_eval (co_wB p a) (allSay_append hh ⟨hb, trivial⟩)
    | false =>
      unfold flC alB at hf
      rw [hb] at hf
      by_cases s1 : (xP p a).2.1 = 1
      · by_cases q : (bif c1 p a then true else lwC p a) = true
        · exact T.path_eval (co_w1f p a) (allSay_append hh (allSay_append ⟨hb, by rw [s1]; rfl, trivial⟩ (tl_say h hi _ _ q)))
        · have q := Bool.eq_false_iff.2 q
          have hc : c1 p a = false := by cases e : c1 p a with
            | true => rw [e] at q; cases q
            | false => rfl
          rw [hc] at q
          have q : lwC p a = false := q
          have ov : ovC p a = true := by
            unfold c1 at hc
            rw [Bool.not_eq_false'] at hc
            rw [s1, hc, q] at hf
            simpa using hf
          exact T.path_eval (co_w1o p a) (allSay_append hh (allSay_append ⟨hb, by rw [s1]; rfl, trivial⟩ (allSay_append (tl_say h hi _ _ (by rw [hc]; exact q)) ⟨ov, trivial⟩)))
      · by_cases s2 : (xP p a).2.1 = 2
        · cases q : lwC p a with
          | true => exact T.path_eval (co_w2f p a) (allSay_append hh (allSay_append ⟨hb, beqF s1, by rw [s2]; rfl, trivial⟩ (tl2_say h hi _ q)))
          | false =>
            have ov : ovC p a = true := by
              rw [s2, q] at hf
              simpa using hf
            exact T.path_eval (co_w2o p a) (allSay_append hh (allSay_append ⟨hb, beqF s1, by rw [s2]; rfl, trivial⟩ (allSay_append (tl2_say h hi _ q) ⟨ov, trivial⟩)))
        · by_cases s3 : (xP p a).2.1 = 3
          · by_cases q : (bif c3 p a then true else lwC p a) = true
            · exact T.path_eval (co_w3f p a) (allSay_append hh (allSay_append ⟨hb, beqF s1, beqF s2, by rw [s3]; rfl, trivial⟩ (tl_say h hi _ _ q)))
            · have q := Bool.eq_false_iff.2 q
              have hc : c3 p a = false := by cases e : c3 p a with
                | true => rw [e] at q; cases q
                | false => rfl
              rw [hc] at q
              have q : lwC p a = false := q
              have ov : ovC p a = true := by
                unfold c3 at hc
                rw [Bool.not_eq_false'] at hc
                rw [s3, hc, q] at hf
                simpa using hf
              exact T.path_eval (co_w3o p a) (allSay_append hh (allSay_append ⟨hb, beqF s1, beqF s2, by rw [s3]; rfl, trivial⟩ (allSay_append (tl_say h hi _ _ (by rw [hc]; exact q)) ⟨ov, trivial⟩)))
          · exact T.path_eval (co_wN p a) (allSay_append hh ⟨hb, beqF s1, beqF s2, beqF s3, trivial⟩)
  · have e := Option.some.inj (ite_F hr (decide_eq_false hi))
    subst e
    exact ⟨by simp, T.path_eval (co_wX p a) ⟨decide_eq_false hi, trivial⟩⟩
noncomputable def famCo : LSpec := famE [1,3,7,8,9] SCo SCox 1000 1000 63 decCo okCo goCo rdCo FCo muCo outCo
theorem lpCo_ok : LoopOk T1 lpCo famCo := famE_ok (vs := vsCo) (bs := bsCo) T1_ok mixed (noLoops_ok _) decCo_ok (fun _ _ => rfl) (fun _ _ => rfl) stepCo exCo
end Go.Proofs.Ytebibmioiigplaa.Tow

/- Layer 25: count, Pods: their contracts over views with rows of pods. -/
namespace Go.Proofs.Ytebibmioiigplaa.Tow
open Go.Eng Go.RowKit Rin
set_option linter.unusedVariables false
set_option linter.unusedSimpArgs false
set_option maxRecDepth 100000
noncomputable def couL : Eng.Obj := execO T1 (byReg [(rgCo, famCo)]) 113
theorem couL_ok : ObjOk Try.prog 113 couL := execO_loops T1_ok mixed Try.func113 (by kernel_rfl) (by kernel_rfl) (one_lp (by kernel_rfl) rgCo_is lpCo_ok)
structure Vw where
  t : Int
  w : Int
  p : Bool
  x : Bool
  wt : Int
  b : Int
  e0 : Int
  e1 : Int
  e2 : Int
  e3 : Int
  e4 : Int
  e5 : Int
  e6 : Int
  o : Bool
def fb (f b : Bool) : V := bif f then .s (.bool b) else .ff
def vwV (f : Bool) (v : Vw) (s : V) : V := .agg [.s (.int .i64 v.t), .s (.int .i64 v.w), fb f v.p, fb f v.x, s, .s (.int .i64 v.wt), .s (.int .i64 v.b), .s (.int .i64 v.e0), .s (.int .i64 v.e1), .s (.int .i64 v.e2), .s (.int .i64 v.e3), .s (.int .i64 v.e4), .s (.int .i64 v.e5), .s (.int .i64 v.e6), fb f v.o]
abbrev KPd : List K := [.int .i64, .int .i64, .int .i64, .int .i64]
def pdB (o : Bool) (l : List Pd) : Blk := .lst o 95 KPd l
def vb (f b : Bool) : Bool := bif f then b else false
def pCo (f : Bool) (v : Vw) (o : Bool) (k : Nat) (l : List Pd) : PCo := ⟨v.t, v.w, vb f v.p, vb f v.x, k, v.wt, v.b, v.e0, v.e1, v.e2, v.e3, v.e4, v.e5, v.e6, vb f v.o, o, l, k, (k : Int)⟩
end Go.Proofs.Ytebibmioiigplaa.Tow

/- Layer 25: count: its contract. -/
namespace Go.Proofs.Ytebibmioiigplaa.Tow
open Go.Eng Go.RowKit Rin
set_option linter.unusedVariables false
set_option linter.unusedSimpArgs false
set_option maxRecDepth 100000
/-- what is given back: the rows, if they are the caller's own -/
def outH (o : Bool) (l : List Pd) : Heap := bif o then [(0, pdB true l)] else []
noncomputable def eCo (f : Bool) (v : Vw) (o : Bool) (k : Nat) (l : List Pd) : ACo := endW (nxtC okCo goCo rdCo FCo muCo (pCo f v o k l)) ⟨0, 0, 0⟩
theorem cou_w (f g : Bool) (v : Vw) (o : Bool) (k : Nat) (l : List Pd) : T.path [true, g] (T.anon (couL [vwV f v (.sub 0 4 0 k)] [(0, pdB o l)])) = some ([(invC okCo (pCo f v o k l) ⟨0, 0, 0⟩, true), (decide ((eCo f v o k l).i < (k : Int)), g)], (bif g then .iface 200 (.agg []) else .iface 170 (.agg [.s (.int .i64 (eCo f v o k l).st), .s (.int .i64 (eCo f v o k l).bu)]), outH o l)) := by cases f <;> cases g <;> cases o <;> kernel_rfl
def asPd : Blk → Option (Bool × List Pd)
  | .lst o t [.int .i64, .int .i64, .int .i64, .int .i64] l => if t = 95 then some (o, l) else none
  | _ => none
theorem asPd_ok {b : Blk} {r : Bool × List Pd} (h : asPd b = some r) : b = pdB r.1 r.2 := by
  unfold asPd at h
  split at h
  · obtain ⟨e, h⟩ := ite_some0 h
    subst e
    cases h; rfl
  · cases h
/-- three truths, all of them open or all of them told to be false -/
def asB3 : V → V → V → Option (Bool × Bool × Bool × Bool)
  | .ff, .ff, .ff => some (false, false, false, false)
  | .s (.bool a), .s (.bool b), .s (.bool c) => some (true, a, b, c)
  | _, _, _ => none
theorem asB3_ok {x y z : V} {r : Bool × Bool × Bool × Bool} (h : asB3 x y z = some r) : x = fb r.1 r.2.1 ∧ y = fb r.1 r.2.2.1 ∧ z = fb r.1 r.2.2.2 := by
  unfold asB3 at h
  split at h
  · cases h; exact ⟨rfl, rfl, rfl⟩
  · cases h; exact ⟨rfl, rfl, rfl⟩
  · cases h
/-- a view with rows of pods in the first block -/
def asVw (args : List V) (h : Heap) : Option (Bool × Vw × Bool × Nat × List Pd) :=
  match args, h with
  | [.agg [.s (.int .i64 t), .s (.int .i64 w), p, x, .sub 0 4 0 k, .s (.int .i64 wt), .s (.int .i64 b), .s (.int .i64 e0), .s (.int .i64 e1), .s (.int .i64 e2), .s (.int .i64 e3), .s (.int .i64 e4), .s (.int .i64 e5), .s (.int .i64 e6), o]], [(0, bl)] =>
    (asB3 p x o).bind fun q => (asPd bl).bind fun z => some (q.1, ⟨t, w, q.2.1, q.2.2.1, wt, b, e0, e1, e2, e3, e4, e5, e6, q.2.2.2⟩, z.1, k, z.2)
  | _, _ => none
theorem asVw_ok {args : List V} {h : Heap} {r : Bool × Vw × Bool × Nat × List Pd} (e : asVw args h = some r) : args = [vwV r.1 r.2.1 (.sub 0 4 0 r.2.2.2.1)] ∧ h = [(0, pdB r.2.2.1 r.2.2.2.2)] := by
  unfold asVw at e
  split at e
  · obtain ⟨q, hq, e⟩ := Option.bind_eq_some_iff.1 e
    obtain ⟨z, hz, e⟩ := Option.bind_eq_some_iff.1 e
    cases e
    obtain ⟨e1, e2, e3⟩ := asB3_ok hq
    have e4 := asPd_ok hz
    subst e1; subst e2; subst e3; subst e4
    exact ⟨rfl, rfl⟩
  · cases e
def gdC (k : Nat) (l : List Pd) : Bool := decide (k = l.length) && decide (k ≤ 1000000)
def cou (v : Vw) (l : List Pd) : Option (Int × Int) := couG v.t v.b none 0 0 l
noncomputable def couS : Eng.Obj := fun args h => match asVw args h with
  | some r => .ite none (gdC r.2.2.2.1 r.2.2.2.2) (.ite none (cou r.2.1 r.2.2.2.2).isSome (.ret (.iface 170 (.agg [.s (.int .i64 ((cou r.2.1 r.2.2.2.2).getD (0, 0)).1), .s (.int .i64 ((cou r.2.1 r.2.2.2.2).getD (0, 0)).2)]), outH r.2.2.1 r.2.2.2.2)) (.ret (.iface 200 (.agg []), outH r.2.2.1 r.2.2.2.2))) .fail
  | none => .fail
theorem pCo_r {f f' o o' : Bool} {v v' : Vw} {k k' : Nat} {l l' : List Pd} (h : pCo f v o k l = pCo f' v' o' k' l') : k = k' := congrArg PCo.k h
/-- what the loop comes to -/
theorem cou_end {f : Bool} {v : Vw} {o : Bool} {k : Nat} {l : List Pd} (h : gdC k l = true) : invC okCo (pCo f v o k l) ⟨0, 0, 0⟩ = true ∧ (decide ((eCo f v o k l).i < (k : Int)) = true → cou v l = none) ∧ (decide ((eCo f v o k l).i < (k : Int)) = false → cou v l = some ((eCo f v o k l).st, (eCo f v o k l).bu)) := by
  unfold gdC at h
  rw [Bool.and_eq_true, decide_eq_true_eq, decide_eq_true_eq] at h
  have h0 : okCo (pCo f v o k l) ⟨0, 0, 0⟩ := ⟨h.1, rfl, rfl, h.2, Int.le_refl _, by show (0 : Int) ≤ (k : Int); omega, rfl⟩
  obtain ⟨k1, k2⟩ := endC stepCo h0
  have k1 : okCo (pCo f v o k l) (eCo f v o k l) := k1
  have k2 : goCo (pCo f v o k l) (eCo f v o k l) = false := k2
  have eg : couG v.t v.b none 0 0 l = couG v.t v.b (pvI l (eCo f v o k l).i) (eCo f v o k l).st (eCo f v o k l).bu (l.drop (eCo f v o k l).i.toNat) := k1.g
  refine ⟨invC_is h0, fun hi => ?_, fun hi => ?_⟩
  · have hi' : (eCo f v o k l).i < (pCo f v o k l).z := of_decide_eq_true hi
    have hg := co_g k1 hi'
    have hf : flC (pCo f v o k l) (eCo f v o k l) = true := by
      unfold goCo at k2
      rw [decide_eq_true hi', Bool.true_and, Bool.not_eq_false'] at k2
      exact k2
    rw [hf, if_pos rfl] at hg
    exact hg
  · have hi' : ¬ (eCo f v o k l).i < (k : Int) := of_decide_eq_false hi
    have i1 : (eCo f v o k l).i ≤ (k : Int) := k1.i1
    have i0 := k1.i0
    have e : l.drop (eCo f v o k l).i.toNat = [] := List.drop_eq_nil_of_le (by omega)
    rw [e] at eg
    exact eg
theorem couS_ok : ObjOk Try.prog 113 couS := couL_ok.of_eval fun args h x hv => by
  unfold couS at hv
  split at hv
  · rename_i r hr
    obtain ⟨e1, e2⟩ := asVw_ok hr
    obtain ⟨f, v, o, k, l⟩ := r
    simp only at e1 e2 hv
    subst e1; subst e2
    rw [← T.eval_anon (t := couL _ _)]
    cases hg : gdC k l with
    | false => have := ite_F hv hg; cases this
    | true =>
      have hv := ite_T hv hg
      obtain ⟨a1, a2, a3⟩ := cou_end (f := f) (v := v) (o := o) hg
      cases hi : decide ((eCo f v o k l).i < (k : Int)) with
      | true =>
        have e := a2 hi
        rw [e] at hv
        obtain rfl := Option.some.inj (ite_F hv rfl)
        exact T.path_eval (cou_w f true v o k l) ⟨a1, hi, trivial⟩
      | false =>
        have e := a3 hi
        rw [e] at hv
        obtain rfl := Option.some.inj (ite_T hv rfl)
        exact T.path_eval (cou_w f false v o k l) ⟨a1, hi, trivial⟩
  · cases hv
end Go.Proofs.Ytebibmioiigplaa.Tow

/- Layer 25: TowerPods: its calls. -/
namespace Go.Proofs.Ytebibmioiigplaa.Tow
open Go.Eng Go.RowKit Rin
set_option linter.unusedVariables false
set_option linter.unusedSimpArgs false
set_option maxRecDepth 100000
noncomputable def U2' : Cfg := ⟨Try.prog, lookG [(113, .obj couS), (96, .val Conf.mayS), (109, .val Conf.mostS)], [], 0⟩
theorem U2'_ok : U2'.Ok := Cfg.ok ⟨couS_ok, Conf.may_ok, Conf.most_ok, trivial⟩ trivial
noncomputable def podG : Eng.Obj := execO U2' noLoops 72
theorem podG_ok : ObjOk Try.prog 72 podG := execO_plain U2'_ok mixed Try.func72 (by kernel_rfl) (by kernel_rfl)
noncomputable def U8 : Cfg := ⟨Try.prog, lookG [(72, .obj podG), (50, .val Conf.dfltS), (73, .val yesR)], [], 6⟩
theorem U8_ok : U8.Ok := Cfg.ok ⟨podG_ok, Conf.refdflt_ok, told25_ok, trivial⟩ trivial
end Go.Proofs.Ytebibmioiigplaa.Tow

/- Layer 25: TowerPods: the loop. -/
namespace Go.Proofs.Ytebibmioiigplaa.Tow
open Go.Eng Go.RowKit Rin
set_option linter.unusedVariables false
set_option linter.unusedSimpArgs false
set_option maxRecDepth 100000
noncomputable def lpTp : Code := loopAt Try.prog 16 0
structure PTp where (c_target : Int) (c_util : Int) (c_stable : Int) (c_panic : Int) (c_grain : Int) (c_threshold : Int) (c_up : Int) (c_down : Int) (c_min : Int) (c_max : Int) (c_initial : Int) (c_grace : Int) (c_delay : Int) (c_burst : Int) (c_limit : Int) (c_queue : Int) (c_timeout : Int) (c_ready : Int) (c_subset : Int) (c_sample : Int) (q : Nat) (l : List Int) (wh : Int) (how : Int) (k : Int) (vt : Int) (vw : Int) (vp : Bool) (vx : Bool) (wt : Int) (e0 : Int) (e1 : Int) (e2 : Int) (e3 : Int) (e4 : Int) (e5 : Int) (e6 : Int) (vo : Bool)
structure ATp where (i : Int) (bz : Int) (j : Nat) (W : List (Int × Int × Int × Int))
abbrev STp : List (Nat × Src) := [(0, .same), (1, .same), (17, .same), (2000, .cell 17 4)]
def vsTp (p : PTp) (a : ATp) : List V := [.sub 0 1 0 p.q, iv p.wh, iv p.how, .ptr 1 0, iv p.k, .ptr 17 0, iv a.i]
def bsTp (p : PTp) (a : ATp) : List Blk := [.lst false 3 [.int .i64] p.l, .cells 52 [iv p.c_target, iv p.c_util, iv p.c_stable, iv p.c_panic, iv p.c_grain, iv p.c_threshold, iv p.c_up, iv p.c_down, iv p.c_min, iv p.c_max, iv p.c_initial, iv p.c_grace, iv p.c_delay, iv p.c_burst, iv p.c_limit, iv p.c_queue, iv p.c_timeout, iv p.c_ready, iv p.c_subset, iv p.c_sample], .cells 99 [iv p.vt, iv p.vw, bv p.vp, bv p.vx, .sub 2000 4 0 a.j, iv p.wt, iv a.bz, iv p.e0, iv p.e1, iv p.e2, iv p.e3, iv p.e4, iv p.e5, iv p.e6, bv p.vo], .lst true 95 [.int .i64, .int .i64, .int .i64, .int .i64] a.W]
noncomputable def FTp (p : PTp) (a : ATp) : St := mkSt [1,2,3,9,10,11,12] (keysR STp) 2001 126 (vsTp p a) (bsTp p a)
noncomputable def rdTp (p : PTp) (a : ATp) : T (Ex × St) := T.anon (roundN U8 noLoops lpTp [1,2,3,9,10,11,12] STp 2000 2001 (mkSt [1,2,3,9,10,11,12] (keysR STp) 2001 126 (vsTp p a) (bsTp p a)))
def decTp_v0 : V → Option ((Nat))
  | .sub 0 1 0 q => some (q)
  | _ => none
theorem decTp_v0_ok (b : V) (x0 : (Nat)) (h : decTp_v0 b = some x0) : b = .sub 0 1 0 (x0) := by
  unfold decTp_v0 at h
  split at h
  · cases h
    rfl
  · cases h
def decTp_v1 : V → Option ((Int))
  | .s (.int .i64 wh) => some (wh)
  | _ => none
theorem decTp_v1_ok (b : V) (x1 : (Int)) (h : decTp_v1 b = some x1) : b = iv (x1) := by
  unfold decTp_v1 at h
  split at h
  · cases h
    rfl
  · cases h
def decTp_v2 : V → Option ((Int))
  | .s (.int .i64 how) => some (how)
  | _ => none
theorem decTp_v2_ok (b : V) (x2 : (Int)) (h : decTp_v2 b = some x2) : b = iv (x2) := by
  unfold decTp_v2 at h
  split at h
  · cases h
    rfl
  · cases h
def decTp_v3 : V → Option (Unit)
  | .ptr 1 0 => some ()
  | _ => none
theorem decTp_v3_ok (b : V) (x3 : Unit) (h : decTp_v3 b = some x3) : b = .ptr 1 0 := by
  unfold decTp_v3 at h
  split at h
  · cases h
    rfl
  · cases h
def decTp_v4 : V → Option ((Int))
  | .s (.int .i64 k) => some (k)
  | _ => none
theorem decTp_v4_ok (b : V) (x4 : (Int)) (h : decTp_v4 b = some x4) : b = iv (x4) := by
  unfold decTp_v4 at h
  split at h
  · cases h
    rfl
  · cases h
def decTp_v5 : V → Option (Unit)
  | .ptr 17 0 => some ()
  | _ => none
theorem decTp_v5_ok (b : V) (x5 : Unit) (h : decTp_v5 b = some x5) : b = .ptr 17 0 := by
  unfold decTp_v5 at h
  split at h
  · cases h
    rfl
  · cases h
def decTp_v6 : V → Option ((Int))
  | .s (.int .i64 i) => some (i)
  | _ => none
theorem decTp_v6_ok (b : V) (x6 : (Int)) (h : decTp_v6 b = some x6) : b = iv (x6) := by
  unfold decTp_v6 at h
  split at h
  · cases h
    rfl
  · cases h
def decTp_b0 : Blk → Option ((List Int))
  | .lst false tt0 [.int .i64] l => if tt0 = 3 then some (l) else none
  | _ => none
theorem decTp_b0_ok (b : Blk) (y0 : (List Int)) (h : decTp_b0 b = some y0) : b = .lst false 3 [.int .i64] (y0) := by
  unfold decTp_b0 at h
  split at h
  · obtain ⟨e0, h⟩ := ite_some0 h
    subst e0
    cases h
    rfl
  · cases h
def decTp_b1 : Blk → Option ((Int) × (Int) × (Int) × (Int) × (Int) × (Int) × (Int) × (Int) × (Int) × (Int) × (Int) × (Int) × (Int) × (Int) × (Int) × (Int) × (Int) × (Int) × (Int) × (Int))
  | .cells tt0 [.s (.int .i64 c_target), .s (.int .i64 c_util), .s (.int .i64 c_stable), .s (.int .i64 c_panic), .s (.int .i64 c_grain), .s (.int .i64 c_threshold), .s (.int .i64 c_up), .s (.int .i64 c_down), .s (.int .i64 c_min), .s (.int .i64 c_max), .s (.int .i64 c_initial), .s (.int .i64 c_grace), .s (.int .i64 c_delay), .s (.int .i64 c_burst), .s (.int .i64 c_limit), .s (.int .i64 c_queue), .s (.int .i64 c_timeout), .s (.int .i64 c_ready), .s (.int .i64 c_subset), .s (.int .i64 c_sample)] => if tt0 = 52 then some (c_target, c_util, c_stable, c_panic, c_grain, c_threshold, c_up, c_down, c_min, c_max, c_initial, c_grace, c_delay, c_burst, c_limit, c_queue, c_timeout, c_ready, c_subset, c_sample) else none
  | _ => none
theorem decTp_b1_ok (b : Blk) (y1 : (Int) × (Int) × (Int) × (Int) × (Int) × (Int) × (Int) × (Int) × (Int) × (Int) × (Int) × (Int) × (Int) × (Int) × (Int) × (Int) × (Int) × (Int) × (Int) × (Int)) (h : decTp_b1 b = some y1) : b = .cells 52 [iv (y1.1), iv (y1.2.1), iv (y1.2.2.1), iv (y1.2.2.2.1), iv (y1.2.2.2.2.1), iv (y1.2.2.2.2.2.1), iv (y1.2.2.2.2.2.2.1), iv (y1.2.2.2.2.2.2.2.1), iv (y1.2.2.2.2.2.2.2.2.1), iv (y1.2.2.2.2.2.2.2.2.2.1), iv (y1.2.2.2.2.2.2.2.2.2.2.1), iv (y1.2.2.2.2.2.2.2.2.2.2.2.1), iv (y1.2.2.2.2.2.2.2.2.2.2.2.2.1), iv (y1.2.2.2.2.2.2.2.2.2.2.2.2.2.1), iv (y1.2.2.2.2.2.2.2.2.2.2.2.2.2.2.1), iv (y1.2.2.2.2.2.2.2.2.2.2.2.2.2.2.2.1), iv (y1.2.2.2.2.2.2.2.2.2.2.2.2.2.2.2.2.1), iv (y1.2.2.2.2.2.2.2.2.2.2.2.2.2.2.2.2.2.1), iv (y1.2.2.2.2.2.2.2.2.2.2.2.2.2.2.2.2.2.2.1), iv (y1.2.2.2.2.2.2.2.2.2.2.2.2.2.2.2.2.2.2.2)] := by
  unfold decTp_b1 at h
  split at h
  · obtain ⟨e0, h⟩ := ite_some0 h
    subst e0
    cases h
    rfl
  · cases h
def decTp_b2 : Blk → Option ((Int) × (Int) × (Bool) × (Bool) × (Nat) × (Int) × (Int) × (Int) × (Int) × (Int) × (Int) × (Int) × (Int) × (Int) × (Bool))
  | .cells tt0 [.s (.int .i64 vt), .s (.int .i64 vw), .s (.bool vp), .s (.bool vx), .sub 2000 4 0 j, .s (.int .i64 wt), .s (.int .i64 bz), .s (.int .i64 e0), .s (.int .i64 e1), .s (.int .i64 e2), .s (.int .i64 e3), .s (.int .i64 e4), .s (.int .i64 e5), .s (.int .i64 e6), .s (.bool vo)] => if tt0 = 99 then some (vt, vw, vp, vx, j, wt, bz, e0, e1, e2, e3, e4, e5, e6, vo) else none
  | _ => none
theorem decTp_b2_ok (b : Blk) (y2 : (Int) × (Int) × (Bool) × (Bool) × (Nat) × (Int) × (Int) × (Int) × (Int) × (Int) × (Int) × (Int) × (Int) × (Int) × (Bool)) (h : decTp_b2 b = some y2) : b = .cells 99 [iv (y2.1), iv (y2.2.1), bv (y2.2.2.1), bv (y2.2.2.2.1), .sub 2000 4 0 (y2.2.2.2.2.1), iv (y2.2.2.2.2.2.1), iv (y2.2.2.2.2.2.2.1), iv (y2.2.2.2.2.2.2.2.1), iv (y2.2.2.2.2.2.2.2.2.1), iv (y2.2.2.2.2.2.2.2.2.2.1), iv (y2.2.2.2.2.2.2.2.2.2.2.1), iv (y2.2.2.2.2.2.2.2.2.2.2.2.1), iv (y2.2.2.2.2.2.2.2.2.2.2.2.2.1), iv (y2.2.2.2.2.2.2.2.2.2.2.2.2.2.1), bv (y2.2.2.2.2.2.2.2.2.2.2.2.2.2.2)] := by
  unfold decTp_b2 at h
  split at h
  · obtain ⟨e0, h⟩ := ite_some0 h
    subst e0
    cases h
    rfl
  · cases h
def decTp_b3 : Blk → Option ((List (Int × Int × Int × Int)))
  | .lst true tt0 [.int .i64, .int .i64, .int .i64, .int .i64] W => if tt0 = 95 then some (W) else none
  | _ => none
theorem decTp_b3_ok (b : Blk) (y3 : (List (Int × Int × Int × Int))) (h : decTp_b3 b = some y3) : b = .lst true 95 [.int .i64, .int .i64, .int .i64, .int .i64] (y3) := by
  unfold decTp_b3 at h
  split at h
  · obtain ⟨e0, h⟩ := ite_some0 h
    subst e0
    cases h
    rfl
  · cases h
def decTp : List V → List Blk → Option (PTp × ATp)
  | [v0, v1, v2, v3, v4, v5, v6], [b0, b1, b2, b3] => (decTp_v0 v0).bind fun x0 => (decTp_v1 v1).bind fun x1 => (decTp_v2 v2).bind fun x2 => (decTp_v3 v3).bind fun x3 => (decTp_v4 v4).bind fun x4 => (decTp_v5 v5).bind fun x5 => (decTp_v6 v6).bind fun x6 => (decTp_b0 b0).bind fun y0 => (decTp_b1 b1).bind fun y1 => (decTp_b2 b2).bind fun y2 => (decTp_b3 b3).bind fun y3 => some (⟨(y1.1), (y1.2.1), (y1.2.2.1), (y1.2.2.2.1), (y1.2.2.2.2.1), (y1.2.2.2.2.2.1), (y1.2.2.2.2.2.2.1), (y1.2.2.2.2.2.2.2.1), (y1.2.2.2.2.2.2.2.2.1), (y1.2.2.2.2.2.2.2.2.2.1), (y1.2.2.2.2.2.2.2.2.2.2.1), (y1.2.2.2.2.2.2.2.2.2.2.2.1), (y1.2.2.2.2.2.2.2.2.2.2.2.2.1), (y1.2.2.2.2.2.2.2.2.2.2.2.2.2.1), (y1.2.2.2.2.2.2.2.2.2.2.2.2.2.2.1), (y1.2.2.2.2.2.2.2.2.2.2.2.2.2.2.2.1), (y1.2.2.2.2.2.2.2.2.2.2.2.2.2.2.2.2.1), (y1.2.2.2.2.2.2.2.2.2.2.2.2.2.2.2.2.2.1), (y1.2.2.2.2.2.2.2.2.2.2.2.2.2.2.2.2.2.2.1), (y1.2.2.2.2.2.2.2.2.2.2.2.2.2.2.2.2.2.2.2), (x0), (y0), (x1), (x2), (x4), (y2.1), (y2.2.1), (y2.2.2.1), (y2.2.2.2.1), (y2.2.2.2.2.2.1), (y2.2.2.2.2.2.2.2.1), (y2.2.2.2.2.2.2.2.2.1), (y2.2.2.2.2.2.2.2.2.2.1), (y2.2.2.2.2.2.2.2.2.2.2.1), (y2.2.2.2.2.2.2.2.2.2.2.2.1), (y2.2.2.2.2.2.2.2.2.2.2.2.2.1), (y2.2.2.2.2.2.2.2.2.2.2.2.2.2.1), (y2.2.2.2.2.2.2.2.2.2.2.2.2.2.2)⟩, ⟨(x6), (y2.2.2.2.2.2.2.1), (y2.2.2.2.2.1), (y3)⟩)
  | _, _ => none
theorem decTp_ok (l : List V) (b : List Blk) (d : PTp × ATp) (h : decTp l b = some d) : l = vsTp d.1 d.2 ∧ b = bsTp d.1 d.2 := by
  unfold decTp at h
  split at h
  · obtain ⟨x0, hx0, h⟩ := Option.bind_eq_some_iff.1 h
    obtain ⟨x1, hx1, h⟩ := Option.bind_eq_some_iff.1 h
    obtain ⟨x2, hx2, h⟩ := Option.bind_eq_some_iff.1 h
    obtain ⟨x3, hx3, h⟩ := Option.bind_eq_some_iff.1 h
    obtain ⟨x4, hx4, h⟩ := Option.bind_eq_some_iff.1 h
    obtain ⟨x5, hx5, h⟩ := Option.bind_eq_some_iff.1 h
    obtain ⟨x6, hx6, h⟩ := Option.bind_eq_some_iff.1 h
    obtain ⟨y0, hy0, h⟩ := Option.bind_eq_some_iff.1 h
    obtain ⟨y1, hy1, h⟩ := Option.bind_eq_some_iff.1 h
    obtain ⟨y2, hy2, h⟩ := Option.bind_eq_some_iff.1 h
    obtain ⟨y3, hy3, h⟩ := Option.bind_eq_some_iff.1 h
    have ex0 := decTp_v0_ok _ _ hx0
    have ex1 := decTp_v1_ok _ _ hx1
    have ex2 := decTp_v2_ok _ _ hx2
    have ex3 := decTp_v3_ok _ _ hx3
    have ex4 := decTp_v4_ok _ _ hx4
    have ex5 := decTp_v5_ok _ _ hx5
    have ex6 := decTp_v6_ok _ _ hx6
    have ey0 := decTp_b0_ok _ _ hy0
    have ey1 := decTp_b1_ok _ _ hy1
    have ey2 := decTp_b2_ok _ _ hy2
    have ey3 := decTp_b3_ok _ _ hy3
    cases h
    subst ex0 ex1 ex2 ex3 ex4 ex5 ex6 ey0 ey1 ey2 ey3
    exact ⟨rfl, rfl⟩
  · cases h
noncomputable def rgTp : Nat := (firstReg lpTp).getD 0
theorem rgTp_is : firstReg lpTp = some rgTp := by kernel_rfl
end Go.Proofs.Ytebibmioiigplaa.Tow

/- Layer 25: TowerBounds. -/
namespace Go.Proofs.Ytebibmioiigplaa.Tow
open Go.Eng Go.RowKit Rin Mil Conf
set_option linter.unusedVariables false
set_option linter.unusedSimpArgs false
set_option maxRecDepth 100000
abbrev wJ (n : Int) : Int := IntKind.wrap .i64 n
def M (x m : Int) : Int := IntKind.wrap .i64 (Int.tmod (IntKind.wrap .u64 x) m)
def cB (l h : Int) : Conf.Cf := { Conf.dflt with min := l, max := h, initial := 50 }
theorem M_range (x : Int) {m : Int} (h0 : 0 < m) (h1 : m ≤ 1000000) : 0 ≤ M x m ∧ M x m < m := by
  unfold M
  have hu : 0 ≤ IntKind.wrap .u64 x := by rw [IntKind.wrap_u64]; omega
  have h2 := Int.tmod_nonneg m hu
  have h3 := Int.tmod_lt_of_pos (IntKind.wrap .u64 x) h0
  rw [wrap64_in (by omega) (by omega)]
  exact ⟨h2, h3⟩
theorem cB_may {l h : Int} (l0 : 0 ≤ l) (l1 : l < 50) (h0 : 50 ≤ h) (h1 : h ≤ 100) : Conf.mayB (cB l h) = true := by
  have k : ∀ {a b c : Int}, decide (a ≤ b ∧ b ≤ c) = true → a ≤ b ∧ b ≤ c := fun h => of_decide_eq_true h
  have e : Conf.mostC (cB l h) = h := by
    unfold Conf.mostC
    show (if h = 0 then 100 else h) = h
    rw [if_neg (by omega)]
  exact (Conf.may_iff _).2 ⟨k (b := 10000) rfl, k (b := 700) rfl, k (b := 60) rfl, k (b := 6) (c := 60) rfl, k (b := 1) (c := 6) rfl, k (b := 2000) rfl, k (b := 10000) rfl, k (b := 2000) rfl, ⟨l0, by show l ≤ 100; omega⟩, .inr ⟨by show l ≤ h; omega, by show 1 ≤ h; omega, h1⟩, ⟨by show (0 : Int) ≤ 50; decide, by rw [e]; exact h0⟩, k (b := 30) rfl, k (b := 0) rfl, .inr (k (b := 20000) rfl), k (b := 10) rfl, k (b := 100) rfl, k (b := 60) rfl, k (b := 3) rfl, k (b := 0) rfl, k (b := 0) rfl⟩
theorem cB_most {l h : Int} (h0 : 50 ≤ h) : Conf.mostC (cB l h) = h := by
  unfold Conf.mostC
  show (if h = 0 then 100 else h) = h
  rw [if_neg (by omega)]
theorem bou_1 (a b lo hi e w : Int) : T.path [false, false, false, false, false, false, false, false, false, false, true, false, false, false, false, false, false, false, false, false, false, false, false, true, false, false, false, false, false, false, false, false, false, true, true] (T.anon (bouR a b lo hi e w)) = some ([(false, false), (false, false), (false, false), (false, false), (false, false), (false, false), (!mayB (cB (M lo 50) (wJ (50 + M hi 51))), false), (!mayB (cB (M lo 50) (wJ (50 + M hi 51))), false), (false, false), (bif bif (0 : Int) != (0 : Int) then true else decide (mostC (cB (M lo 50) (wJ (50 + M hi 51))) < (0 : Int)) then true else decide ((100 : Int) < (0 : Int)), false), (true, true), (false, false), (false, false), (false, false), (false, false), (decide ((M w 6) < (0 : Int)), false), (false, false), (false, false), (false, false), (bif !mayB (cB (M lo 50) (wJ (50 + M hi 51))) then true else !bif (0 : Int) == (0 : Int) then (0 : Int) == (0 : Int) else false, false), (!mayB (cB (M lo 50) (wJ (50 + M hi 51))), false), (false, false), (bif bif (0 : Int) != (0 : Int) then true else decide (mostC (cB (M lo 50) (wJ (50 + M hi 51))) < (0 : Int)) then true else decide ((100 : Int) < (0 : Int)), false), (true, true), (false, false), (false, false), (false, false), (false, false), (decide ((M e 6) < (0 : Int)), false), (false, false), (false, false), (false, false), (bif bif bif !mayB (cB (M lo 50) (wJ (50 + M hi 51))) then true else !bif (0 : Int) == (0 : Int) then (0 : Int) == (0 : Int) else false then true else !bif (0 : Int) == (0 : Int) then (0 : Int) == (0 : Int) else false then true else !bif decide ((4 : Int) < (5 : Int)) then wJ ((5 : Int) - (4 : Int)) == (1 : Int) else false, false), (bif decide ((M b 111) < (M lo 50)) then true else decide (mostC (cB (M lo 50) (wJ (50 + M hi 51))) < (M b 111)), true), (bif decide ((M b 111) < (M lo 50)) then true else decide (wJ ((50 : Int) + (M hi 51)) < (M b 111)), true)], .s (.bool true)) := by kernel_rfl
theorem bou_2 (a b lo hi e w : Int) : T.path [false, false, false, false, false, false, false, false, false, false, true, false, false, false, false, false, false, false, false, false, false, false, false, true, false, false, false, false, false, false, false, false, false, false, false, true, false, true] (T.anon (bouR a b lo hi e w)) = some ([(false, false), (false, false), (false, false), (false, false), (false, false), (false, false), (!mayB (cB (M lo 50) (wJ (50 + M hi 51))), false), (!mayB (cB (M lo 50) (wJ (50 + M hi 51))), false), (false, false), (bif bif (0 : Int) != (0 : Int) then true else decide (mostC (cB (M lo 50) (wJ (50 + M hi 51))) < (0 : Int)) then true else decide ((100 : Int) < (0 : Int)), false), (true, true), (false, false), (false, false), (false, false), (false, false), (decide ((M w 6) < (0 : Int)), false), (false, false), (false, false), (false, false), (bif !mayB (cB (M lo 50) (wJ (50 + M hi 51))) then true else !bif (0 : Int) == (0 : Int) then (0 : Int) == (0 : Int) else false, false), (!mayB (cB (M lo 50) (wJ (50 + M hi 51))), false), (false, false), (bif bif (0 : Int) != (0 : Int) then true else decide (mostC (cB (M lo 50) (wJ (50 + M hi 51))) < (0 : Int)) then true else decide ((100 : Int) < (0 : Int)), false), (true, true), (false, false), (false, false), (false, false), (false, false), (decide ((M e 6) < (0 : Int)), false), (false, false), (false, false), (false, false), (bif bif bif !mayB (cB (M lo 50) (wJ (50 + M hi 51))) then true else !bif (0 : Int) == (0 : Int) then (0 : Int) == (0 : Int) else false then true else !bif (0 : Int) == (0 : Int) then (0 : Int) == (0 : Int) else false then true else !bif decide ((4 : Int) < (5 : Int)) then wJ ((5 : Int) - (4 : Int)) == (1 : Int) else false, false), (bif decide ((M b 111) < (M lo 50)) then true else decide (mostC (cB (M lo 50) (wJ (50 + M hi 51))) < (M b 111)), false), (false, false), (decide ((M e 6) < (M w 6)), true), (bif decide ((M b 111) < (M lo 50)) then true else decide (wJ ((50 : Int) + (M hi 51)) < (M b 111)), false), (decide ((M e 6) < (M w 6)), true)], .s (.bool true)) := by kernel_rfl
theorem bou_3 (a b lo hi e w : Int) : T.path [false, false, false, false, false, false, false, false, false, false, true, false, false, false, false, false, false, false, false, false, false, false, false, true, false, false, false, false, false, false, false, false, false, false, false, false, false, false, false, false, false, false, false, false, true, false, false, false, false, false, false, false, false, false, false, false, false, true, false, false, false, false, false, false, false, false, false, false, false, false, false, false, true] (T.anon (bouR a b lo hi e w)) = some ([(false, false), (false, false), (false, false), (false, false), (false, false), (false, false), (!mayB (cB (M lo 50) (wJ (50 + M hi 51))), false), (!mayB (cB (M lo 50) (wJ (50 + M hi 51))), false), (false, false), (bif bif (0 : Int) != (0 : Int) then true else decide (mostC (cB (M lo 50) (wJ (50 + M hi 51))) < (0 : Int)) then true else decide ((100 : Int) < (0 : Int)), false), (true, true), (false, false), (false, false), (false, false), (false, false), (decide ((M w 6) < (0 : Int)), false), (false, false), (false, false), (false, false), (bif !mayB (cB (M lo 50) (wJ (50 + M hi 51))) then true else !bif (0 : Int) == (0 : Int) then (0 : Int) == (0 : Int) else false, false), (!mayB (cB (M lo 50) (wJ (50 + M hi 51))), false), (false, false), (bif bif (0 : Int) != (0 : Int) then true else decide (mostC (cB (M lo 50) (wJ (50 + M hi 51))) < (0 : Int)) then true else decide ((100 : Int) < (0 : Int)), false), (true, true), (false, false), (false, false), (false, false), (false, false), (decide ((M e 6) < (0 : Int)), false), (false, false), (false, false), (false, false), (bif bif bif !mayB (cB (M lo 50) (wJ (50 + M hi 51))) then true else !bif (0 : Int) == (0 : Int) then (0 : Int) == (0 : Int) else false then true else !bif (0 : Int) == (0 : Int) then (0 : Int) == (0 : Int) else false then true else !bif decide ((4 : Int) < (5 : Int)) then wJ ((5 : Int) - (4 : Int)) == (1 : Int) else false, false), (bif decide ((M b 111) < (M lo 50)) then true else decide (mostC (cB (M lo 50) (wJ (50 + M hi 51))) < (M b 111)), false), (false, false), (decide ((M e 6) < (M w 6)), false), (false, false), (false, false), (bif decide ((M b 111) < (M lo 50)) then true else decide (wJ ((50 : Int) + (M hi 51)) < (M b 111)), false), (decide ((M e 6) < (M w 6)), false), (!mayB (cB (M lo 50) (wJ (50 + M hi 51))), false), (!mayB (cB (M lo 50) (wJ (50 + M hi 51))), false), (false, false), (bif bif (0 : Int) != (0 : Int) then true else decide (mostC (cB (M lo 50) (wJ (50 + M hi 51))) < (0 : Int)) then true else decide ((100 : Int) < (0 : Int)), false), (true, true), (false, false), (false, false), (false, false), (false, false), (decide ((M w 6) < (0 : Int)), false), (false, false), (false, false), (false, false), (bif !mayB (cB (M lo 50) (wJ (50 + M hi 51))) then true else !bif (0 : Int) == (0 : Int) then (0 : Int) == (0 : Int) else false, false), (!mayB (cB (M lo 50) (wJ (50 + M hi 51))), false), (false, false), (bif bif (0 : Int) != (0 : Int) then true else decide (mostC (cB (M lo 50) (wJ (50 + M hi 51))) < (0 : Int)) then true else decide ((100 : Int) < (0 : Int)), false), (true, true), (false, false), (false, false), (false, false), (false, false), (decide ((M e 6) < (0 : Int)), false), (false, false), (false, false), (false, false), (bif bif bif !mayB (cB (M lo 50) (wJ (50 + M hi 51))) then true else !bif (0 : Int) == (0 : Int) then (0 : Int) == (0 : Int) else false then true else !bif (0 : Int) == (0 : Int) then (0 : Int) == (0 : Int) else false then true else !bif decide ((4 : Int) < (5 : Int)) then wJ ((5 : Int) - (4 : Int)) == (1 : Int) else false, false), (bif decide ((M b 111) < (M lo 50)) then true else decide (mostC (cB (M lo 50) (wJ (50 + M hi 51))) < (M b 111)), false), (false, false), (decide ((M e 6) < (M w 6)), false), (false, false), (false, false), (decide ((M b 111) < (M a 111)), true)], V.s (S.bool (bif bif (0 : Int) == (0 : Int) then ((8 : Int) == (8 : Int)) == decide ((M b 111) < (M a 111)) else false then ((8 : Int) == (0 : Int)) == decide ((M a 111) ≤ (M b 111)) else false))) := by kernel_rfl
theorem bou_4 (a b lo hi e w : Int) : T.path [false, false, false, false, false, false, false, false, false, false, true, false, false, false, false, false, false, false, false, false, false, false, false, true, false, false, false, false, false, false, false, false, false, false, false, false, false, false, false, false, false, false, false, false, true, false, false, false, false, false, false, false, false, false, false, false, false, true, false, false, false, false, false, false, false, false, false, false, false, false, false, false, false] (T.anon (bouR a b lo hi e w)) = some ([(false, false), (false, false), (false, false), (false, false), (false, false), (false, false), (!mayB (cB (M lo 50) (wJ (50 + M hi 51))), false), (!mayB (cB (M lo 50) (wJ (50 + M hi 51))), false), (false, false), (bif bif (0 : Int) != (0 : Int) then true else decide (mostC (cB (M lo 50) (wJ (50 + M hi 51))) < (0 : Int)) then true else decide ((100 : Int) < (0 : Int)), false), (true, true), (false, false), (false, false), (false, false), (false, false), (decide ((M w 6) < (0 : Int)), false), (false, false), (false, false), (false, false), (bif !mayB (cB (M lo 50) (wJ (50 + M hi 51))) then true else !bif (0 : Int) == (0 : Int) then (0 : Int) == (0 : Int) else false, false), (!mayB (cB (M lo 50) (wJ (50 + M hi 51))), false), (false, false), (bif bif (0 : Int) != (0 : Int) then true else decide (mostC (cB (M lo 50) (wJ (50 + M hi 51))) < (0 : Int)) then true else decide ((100 : Int) < (0 : Int)), false), (true, true), (false, false), (false, false), (false, false), (false, false), (decide ((M e 6) < (0 : Int)), false), (false, false), (false, false), (false, false), (bif bif bif !mayB (cB (M lo 50) (wJ (50 + M hi 51))) then true else !bif (0 : Int) == (0 : Int) then (0 : Int) == (0 : Int) else false then true else !bif (0 : Int) == (0 : Int) then (0 : Int) == (0 : Int) else false then true else !bif decide ((4 : Int) < (5 : Int)) then wJ ((5 : Int) - (4 : Int)) == (1 : Int) else false, false), (bif decide ((M b 111) < (M lo 50)) then true else decide (mostC (cB (M lo 50) (wJ (50 + M hi 51))) < (M b 111)), false), (false, false), (decide ((M e 6) < (M w 6)), false), (false, false), (false, false), (bif decide ((M b 111) < (M lo 50)) then true else decide (wJ ((50 : Int) + (M hi 51)) < (M b 111)), false), (decide ((M e 6) < (M w 6)), false), (!mayB (cB (M lo 50) (wJ (50 + M hi 51))), false), (!mayB (cB (M lo 50) (wJ (50 + M hi 51))), false), (false, false), (bif bif (0 : Int) != (0 : Int) then true else decide (mostC (cB (M lo 50) (wJ (50 + M hi 51))) < (0 : Int)) then true else decide ((100 : Int) < (0 : Int)), false), (true, true), (false, false), (false, false), (false, false), (false, false), (decide ((M w 6) < (0 : Int)), false), (false, false), (false, false), (false, false), (bif !mayB (cB (M lo 50) (wJ (50 + M hi 51))) then true else !bif (0 : Int) == (0 : Int) then (0 : Int) == (0 : Int) else false, false), (!mayB (cB (M lo 50) (wJ (50 + M hi 51))), false), (false, false), (bif bif (0 : Int) != (0 : Int) then true else decide (mostC (cB (M lo 50) (wJ (50 + M hi 51))) < (0 : Int)) then true else decide ((100 : Int) < (0 : Int)), false), (true, true), (false, false), (false, false), (false, false), (false, false), (decide ((M e 6) < (0 : Int)), false), (false, false), (false, false), (false, false), (bif bif bif !mayB (cB (M lo 50) (wJ (50 + M hi 51))) then true else !bif (0 : Int) == (0 : Int) then (0 : Int) == (0 : Int) else false then true else !bif (0 : Int) == (0 : Int) then (0 : Int) == (0 : Int) else false then true else !bif decide ((4 : Int) < (5 : Int)) then wJ ((5 : Int) - (4 : Int)) == (1 : Int) else false, false), (bif decide ((M b 111) < (M lo 50)) then true else decide (mostC (cB (M lo 50) (wJ (50 + M hi 51))) < (M b 111)), false), (false, false), (decide ((M e 6) < (M w 6)), false), (false, false), (false, false), (decide ((M b 111) < (M a 111)), false)], V.s (S.bool (bif bif (0 : Int) == (0 : Int) then ((0 : Int) == (8 : Int)) == decide ((M b 111) < (M a 111)) else false then ((0 : Int) == (0 : Int)) == decide ((M a 111) ≤ (M b 111)) else false))) := by kernel_rfl
theorem bou_run (a b lo hi e w : Int) : (bouR a b lo hi e w).yes := by
  unfold T.yes
  rw [← T.eval_anon (t := bouR a b lo hi e w)]
  have ha := M_range a (m := 111) (by decide) (by decide)
  have hb := M_range b (m := 111) (by decide) (by decide)
  have hl := M_range lo (m := 50) (by decide) (by decide)
  have hh := M_range hi (m := 51) (by decide) (by decide)
  have he := M_range e (m := 6) (by decide) (by decide)
  have hw := M_range w (m := 6) (by decide) (by decide)
  have ew : wJ (50 + M hi 51) = 50 + M hi 51 := wrap64_in (by omega) (by omega)
  have w1 := bou_1 a b lo hi e w
  have w2 := bou_2 a b lo hi e w
  have w3 := bou_3 a b lo hi e w
  have w4 := bou_4 a b lo hi e w
  rw [ew] at w1 w2 w3 w4
  have hm := cB_may hl.1 hl.2 (show 50 ≤ 50 + M hi 51 by omega) (by omega)
  have hM : Conf.mostC (cB (M lo 50) (50 + M hi 51)) = 50 + M hi 51 := cB_most (by omega)
  rw [hm, hM] at w1 w2 w3 w4
  clear hm hM ew
  revert w1 w2 w3 w4 ha hb hl hh he hw
  generalize M a 111 = a
  generalize M b 111 = b
  generalize M lo 50 = lo
  generalize M hi 51 = hi
  generalize M e 6 = e
  generalize M w 6 = w
  intro ha hb hl hh he hw w1 w2 w3 w4
  have c1 : decide (50 + hi < 0) = false := decide_eq_false (by omega)
  have c2 : decide (w < 0) = false := decide_eq_false (by omega)
  have c3 : decide (e < 0) = false := decide_eq_false (by omega)
  rw [c1, c2, c3] at w1 w2 w3 w4
  by_cases q : b < lo ∨ 50 + hi < b
  · have q1 : (bif decide (b < lo) then true else decide (50 + hi < b)) = true := by
      rcases q with q | q
      · rw [decide_eq_true q]; rfl
      · rw [decide_eq_true q]; cases decide (b < lo) <;> rfl
    rw [q1] at w1
    exact .inr (T.path_eval w1 (allSay_of (by rfl)))
  · have q1 : decide (b < lo) = false := decide_eq_false (by omega)
    have q2 : decide (50 + hi < b) = false := decide_eq_false (by omega)
    rw [q1, q2] at w2 w3 w4
    by_cases q3 : e < w
    · rw [decide_eq_true q3] at w2
      exact .inr (T.path_eval w2 (allSay_of (by rfl)))
    · rw [decide_eq_false q3] at w3 w4
      right
      by_cases q4 : b < a
      · rw [decide_eq_true q4, decide_eq_false (show ¬ a ≤ b by omega)] at w3
        exact T.path_eval w3 (allSay_of (by rfl))
      · rw [decide_eq_false q4, decide_eq_true (show a ≤ b by omega)] at w4
        exact T.path_eval w4 (allSay_of (by rfl))
theorem bou_walk (a : Int) (_ : (Lit.int .i64 a).wf = true) (b : Int) (_ : (Lit.int .i64 b).wf = true) (lo : Int) (_ : (Lit.int .i64 lo).wf = true) (hi : Int) (_ : (Lit.int .i64 hi).wf = true) (e : Int) (_ : (Lit.int .i64 e).wf = true) (w : Int) (_ : (Lit.int .i64 w).wf = true) (W : World) :
    Calls Try.prog 17 #[.int .i64 a, .int .i64 b, .int .i64 lo, .int .i64 hi, .int .i64 e, .int .i64 w] W fun e w' => e = .returned (.bool true) ∧ Below W.heap.size W w' :=
  Law.law_rows (args := [.s (.int .i64 a), .s (.int .i64 b), .s (.int .i64 lo), .s (.int .i64 hi), .s (.int .i64 e), .s (.int .i64 w)]) (xs := [.int .i64 a, .int .i64 b, .int .i64 lo, .int .i64 hi, .int .i64 e, .int .i64 w]) (execS_plain U6_ok mixed Try.func17 (by kernel_rfl) (by kernel_rfl)) rfl (bou_run a b lo hi e w) W ⟨rfl, rfl, rfl, rfl, rfl, rfl, trivial⟩
end Go.Proofs.Ytebibmioiigplaa.Tow

/- Layer 25: TowerPods: the pods that are made. -/
namespace Go.Proofs.Ytebibmioiigplaa.Tow
open Go.Eng Go.RowKit Rin Mil
set_option linter.unusedVariables false
set_option linter.unusedSimpArgs false
set_option maxRecDepth 100000
def bvT (l : List Int) (i : Int) : Int := M (l.getD (0 + i.toNat) 0) 9
def pdT (b : Int) (i : Int) : Pd := (IntKind.wrap .i64 (2 * i), 2, b, i)
def nxT (a : ATp) (b : Int) : ATp := ⟨IntKind.wrap .i64 (a.i + 1), IntKind.wrap .i64 (a.bz + b), a.j + [pdT b a.i].length, a.W.take a.j ++ [pdT b a.i]⟩
theorem tp_w1 (p : PTp) (a : ATp) : T.path [true, true, true, true, false, true] (rdTp p a) = some ([(decide (a.i < p.k), true), (decide (a.i < (p.q : Int)), true), (idR p.l p.q a.i, true), (ldR p.l a.i, true), (false, false), (apC a.j a.W (pdT (bvT p.l a.i) a.i), true)], (.normal, FTp p (nxT a (bvT p.l a.i)))) := by kernel_rfl
theorem tp_w2 (p : PTp) (a : ATp) : T.path [true, false, true] (rdTp p a) = some ([(decide (a.i < p.k), true), (decide (a.i < (p.q : Int)), false), (apC a.j a.W (pdT 0 a.i), true)], (.normal, FTp p ⟨IntKind.wrap .i64 (a.i + 1), IntKind.wrap .i64 (a.bz + 0), a.j + [pdT 0 a.i].length, a.W.take a.j ++ [pdT 0 a.i]⟩)) := by kernel_rfl
theorem tp_wx (p : PTp) (a : ATp) : T.path [false] (rdTp p a) = some ([(decide (a.i < p.k), false)], (.exit 0, FTp p a)) := by kernel_rfl
/-- what is in flight at the i-th -/
def bI (l : List Int) (i : Nat) : Int := if i < l.length then M (l.getD i 0) 9 else 0
def mkP (l : List Int) (i : Nat) : Pd := (2 * (i : Int), 2, bI l i, (i : Int))
def rowT (l : List Int) (n : Nat) : List Pd := (List.range n).map (mkP l)
def sumT (l : List Int) : Nat → Int
  | 0 => 0
  | n + 1 => sumT l n + bI l n
theorem bI_range (l : List Int) (i : Nat) : 0 ≤ bI l i ∧ bI l i < 9 := by
  unfold bI
  split
  · exact M_range _ (by decide) (by decide)
  · omega
theorem sumT_range (l : List Int) : ∀ n : Nat, 0 ≤ sumT l n ∧ sumT l n ≤ 8 * n
  | 0 => by show (0 : Int) ≤ 0 ∧ (0 : Int) ≤ 8 * 0; omega
  | n + 1 => by
    have h1 := sumT_range l n
    have h2 := bI_range l n
    show 0 ≤ sumT l n + bI l n ∧ sumT l n + bI l n ≤ 8 * ((n + 1 : Nat) : Int)
    omega
theorem rowT_succ (l : List Int) (n : Nat) : rowT l (n + 1) = rowT l n ++ [mkP l n] := by unfold rowT; rw [List.range_succ, List.map_append]; rfl
theorem rowT_len (l : List Int) (n : Nat) : (rowT l n).length = n := by unfold rowT; simp
def okTp (p : PTp) (a : ATp) : Prop := ∃ i : Nat, p.q = p.l.length ∧ 0 ≤ p.k ∧ p.k ≤ 10 ∧ (i : Int) ≤ p.k ∧ a = ⟨(i : Int), sumT p.l i, i, rowT p.l i⟩
def goTp (p : PTp) (a : ATp) : Bool := decide (a.i < p.k)
def muTp (p : PTp) (a : ATp) : Nat := (p.k - a.i).toNat
theorem stepTp (p : PTp) (a : ATp) (h : okTp p a) (hg : goTp p a = true) : ∃ b, stepC okTp rdTp FTp muTp p a b := by
  obtain ⟨i, hq, k0, k1, ik, rfl⟩ := h
  have hi : (i : Int) < p.k := of_decide_eq_true hg
  have hl := rowT_len p.l i
  have e1 : IntKind.wrap .i64 ((i : Int) + 1) = ((i + 1 : Nat) : Int) := (wrap64_in (by omega) (by omega)).trans (by omega)
  have e2 : IntKind.wrap .i64 (2 * (i : Int)) = 2 * (i : Int) := wrap64_in (by omega) (by omega)
  have hs := sumT_range p.l i
  have hs1 := sumT_range p.l (i + 1)
  have tk : (rowT p.l i).take i = rowT p.l i := List.take_of_length_le (by omega)
  have ap : ∀ x : Pd, apC i (rowT p.l i) x = true := fun x => apC_is x (by omega) (by omega)
  have mu : ∀ (x : Int) (j : Nat) (W : List Pd), muTp p ⟨((i + 1 : Nat) : Int), x, j, W⟩ < muTp p ⟨(i : Int), sumT p.l i, i, rowT p.l i⟩ := fun _ _ _ => by show (p.k - ((i + 1 : Nat) : Int)).toNat < (p.k - (i : Int)).toNat; omega
  have fin : ∀ b : Int, b = bI p.l i → (⟨((i + 1 : Nat) : Int), IntKind.wrap .i64 (sumT p.l i + b), i + [pdT b (i : Int)].length, (rowT p.l i).take i ++ [pdT b (i : Int)]⟩ : ATp) = ⟨((i + 1 : Nat) : Int), sumT p.l (i + 1), i + 1, rowT p.l (i + 1)⟩ := by
    intro b hb
    subst hb
    rw [rowT_succ, tk, show IntKind.wrap .i64 (sumT p.l i + bI p.l i) = sumT p.l (i + 1) from wrap64_in (by show -9223372036854775808 ≤ sumT p.l (i + 1); omega) (by show sumT p.l (i + 1) ≤ 9223372036854775807; omega)]
    unfold pdT mkP
    rw [e2]; rfl
  by_cases q : (i : Int) < (p.q : Int)
  · obtain ⟨y1, y2⟩ := idR_is (g := p.l) (k := p.q) (i := (i : Int)) hq (by omega) q
    have way := tp_w1 p ⟨(i : Int), sumT p.l i, i, rowT p.l i⟩
    unfold nxT at way
    simp only at way
    rw [e1, fin _ (by unfold bI bvT; rw [if_pos (by omega), Nat.zero_add]; rfl)] at way
    exact ⟨_, T.path_eval way ⟨hg, decide_eq_true q, y1, y2, rfl, ap _, trivial⟩, ⟨i + 1, hq, k0, k1, by omega, rfl⟩, mu _ _ _⟩
  · have way := tp_w2 p ⟨(i : Int), sumT p.l i, i, rowT p.l i⟩
    simp only at way
    rw [e1, fin _ (by unfold bI; rw [if_neg (by omega)])] at way
    exact ⟨_, T.path_eval way ⟨hg, decide_eq_false q, ap _, trivial⟩, ⟨i + 1, hq, k0, k1, by omega, rfl⟩, mu _ _ _⟩
theorem exTp (p : PTp) (a : ATp) (h : okTp p a) (hg : goTp p a = false) : (rdTp p a).eval = some (.exit 0, FTp p a) := T.path_eval (tp_wx p a) ⟨hg, trivial⟩
noncomputable def famTp : LSpec := famC [1,2,3,9,10,11,12] STp 2000 2001 126 decTp okTp goTp rdTp FTp muTp (.exit 0)
theorem lpTp_ok : LoopOk U8 lpTp famTp := famC_ok (vs := vsTp) (bs := bsTp) U8_ok mixed (noLoops_ok _) decTp_ok (by simp) (fun _ _ => rfl) (fun _ _ => rfl) stepTp exTp
noncomputable def famTq : LSpec := fun st => (adoptC 17 4 95 KPd st).bind famTp
theorem lpTq_ok : LoopOk U8 lpTp famTq := lpTp_ok.adoptC 17 4 95 KPd
noncomputable def tpdR (n : Int) (l : List Int) (wh how : Int) : T V := execS U8 (byReg [(rgTp, famTq)]) 16 [.s (.int .i64 n), .orow 3 [.int .i64] l, .s (.int .i64 wh), .s (.int .i64 how)]
def pTp (l : List Int) (wh how k : Int) : PTp := ⟨Conf.dflt.target, Conf.dflt.util, Conf.dflt.stable, Conf.dflt.panic, Conf.dflt.grain, Conf.dflt.threshold, Conf.dflt.up, Conf.dflt.down, Conf.dflt.min, Conf.dflt.max, Conf.dflt.initial, Conf.dflt.grace, Conf.dflt.delay, Conf.dflt.burst, Conf.dflt.limit, Conf.dflt.queue, Conf.dflt.timeout, Conf.dflt.ready, Conf.dflt.subset, Conf.dflt.sample, l.length, l, wh, how, k, 100, 0, false, false, 0, 0, 0, 0, 0, 0, 0, 0, false⟩
end Go.Proofs.Ytebibmioiigplaa.Tow

/- Layer 25: TowerPods. -/
namespace Go.Proofs.Ytebibmioiigplaa.Tow
open Go.Eng Go.RowKit Rin Mil
set_option linter.unusedVariables false
set_option linter.unusedSimpArgs false
set_option maxRecDepth 100000
def vwT (b : Int) : Vw := ⟨100, 0, false, false, 0, b, 0, 0, 0, 0, 0, 0, 0, false⟩
def cpW (j : Nat) (W : List Pd) : List Pd := List.take 0 [] ++ List.take j (List.drop 0 W)
def cnJ (j : Nat) (W : List Pd) : Nat := 0 + (List.take j (List.drop 0 W)).length
def cpB (j : Nat) (W : List Pd) : Bool := decide (0 + j ≤ W.length) && (decide (0 ≤ ([] : List Pd).length) && decide (0 + (List.take j (List.drop 0 W)).length ≤ 1000000))
def ixW (wh k : Int) : Int := IntKind.wrap .i64 (Int.tmod (IntKind.wrap .u64 wh) (IntKind.wrap .u64 k))
def kT (n : Int) : Int := IntKind.wrap .i64 (1 + M n 10)
noncomputable def eTp (l : List Int) (wh how k : Int) : ATp := endW (nxtC okTp goTp rdTp FTp muTp (pTp l wh how k)) ⟨0, 0, 0, []⟩
def bdC (b : Int) (W : List Pd) : Bool := bif bif ((cou (vwT b) W).getD (0, 0)).2 != b then true else decide (Conf.mostC Conf.dflt < ((cou (vwT b) W).getD (0, 0)).1) then true else decide (100 < ((cou (vwT b) W).getD (0, 0)).1)
def nr (h : Nat) (x : Pd) : Pd := match h with
  | 0 => (x.1, 0, x.2.2.1, x.2.2.2)
  | 1 => (x.1, 4, x.2.2.1, x.2.2.2)
  | 2 => (x.1, x.2.1, IntKind.wrap .i64 (x.2.2.1 + 1), x.2.2.2)
  | 3 => (x.1, x.2.1, x.2.2.1, 101)
  | _ => (x.1, x.2.1, x.2.2.1, -1)
def stW (h j : Nat) (W : List Pd) (i : Int) : List Pd := (cpW j W).set (0 + i.toNat) (nr h ((cpW j W).getD (0 + i.toNat) (0, 0, 0, 0)))
noncomputable def fsT (l : List Int) (wh how k : Int) (E : ATp) : List (Bool × Bool) := [(false, false), (invC okTp (pTp l wh how k) ⟨0, 0, 0, []⟩, true), (false, false), (gdC E.j E.W, true), ((cou (vwT E.bz) E.W).isSome, true), (bdC E.bz E.W, false), (false, false), (IntKind.wrap .u64 k == 0, false), (cpB E.j E.W, true), (false, false)]
theorem tp_t0 (n : Int) (l : List Int) (wh how k : Int) (E : ATp) (hk : kT n = k) (hE : eTp l wh how k = E) : T.path [false, true, false, true, true, false, false, false, true, false, true, true, true, false, true, false, true, true] (T.anon (tpdR n l wh how)) = some (fsT l wh how k E ++ [(decide (Int.tmod (IntKind.wrap .u64 how) 6 = 0), true), (idR (cpW E.j E.W) (cnJ E.j E.W) (ixW wh k), true), (ldR (cpW E.j E.W) (ixW wh k), true), (false, false), (gdC (cnJ E.j E.W) (stW 0 E.j E.W (ixW wh k)), true), ((cou (vwT E.bz) (stW 0 E.j E.W (ixW wh k))).isSome, false), (true, true), (true, true)], .s (.bool true)) := by subst hE; subst hk; kernel_rfl
theorem tp_t1 (n : Int) (l : List Int) (wh how k : Int) (E : ATp) (hk : kT n = k) (hE : eTp l wh how k = E) : T.path [false, true, false, true, true, false, false, false, true, false, false, true, true, true, false, true, false, true, true] (T.anon (tpdR n l wh how)) = some (fsT l wh how k E ++ [(decide (Int.tmod (IntKind.wrap .u64 how) 6 = 0), false), (decide (Int.tmod (IntKind.wrap .u64 how) 6 = 1), true), (idR (cpW E.j E.W) (cnJ E.j E.W) (ixW wh k), true), (ldR (cpW E.j E.W) (ixW wh k), true), (false, false), (gdC (cnJ E.j E.W) (stW 1 E.j E.W (ixW wh k)), true), ((cou (vwT E.bz) (stW 1 E.j E.W (ixW wh k))).isSome, false), (true, true), (true, true)], .s (.bool true)) := by subst hE; subst hk; kernel_rfl
theorem tp_t2 (n : Int) (l : List Int) (wh how k : Int) (E : ATp) (hk : kT n = k) (hE : eTp l wh how k = E) : T.path [false, true, false, true, true, false, false, false, true, false, false, false, true, true, true, true, true, false, true, false, true, true] (T.anon (tpdR n l wh how)) = some (fsT l wh how k E ++ [(decide (Int.tmod (IntKind.wrap .u64 how) 6 = 0), false), (decide (Int.tmod (IntKind.wrap .u64 how) 6 = 1), false), (decide (Int.tmod (IntKind.wrap .u64 how) 6 = 2), true), (idR (cpW E.j E.W) (cnJ E.j E.W) (ixW wh k), true), (ldR (cpW E.j E.W) (ixW wh k), true), (idR (cpW E.j E.W) (cnJ E.j E.W) (ixW wh k), true), (ldR (cpW E.j E.W) (ixW wh k), true), (false, false), (gdC (cnJ E.j E.W) (stW 2 E.j E.W (ixW wh k)), true), ((cou (vwT E.bz) (stW 2 E.j E.W (ixW wh k))).isSome, false), (true, true), (true, true)], .s (.bool true)) := by subst hE; subst hk; kernel_rfl
theorem tp_t3 (n : Int) (l : List Int) (wh how k : Int) (E : ATp) (hk : kT n = k) (hE : eTp l wh how k = E) : T.path [false, true, false, true, true, false, false, false, true, false, false, false, false, true, true, true, false, true, false, true, true] (T.anon (tpdR n l wh how)) = some (fsT l wh how k E ++ [(decide (Int.tmod (IntKind.wrap .u64 how) 6 = 0), false), (decide (Int.tmod (IntKind.wrap .u64 how) 6 = 1), false), (decide (Int.tmod (IntKind.wrap .u64 how) 6 = 2), false), (decide (Int.tmod (IntKind.wrap .u64 how) 6 = 3), true), (idR (cpW E.j E.W) (cnJ E.j E.W) (ixW wh k), true), (ldR (cpW E.j E.W) (ixW wh k), true), (false, false), (gdC (cnJ E.j E.W) (stW 3 E.j E.W (ixW wh k)), true), ((cou (vwT E.bz) (stW 3 E.j E.W (ixW wh k))).isSome, false), (true, true), (true, true)], .s (.bool true)) := by subst hE; subst hk; kernel_rfl
theorem tp_t4 (n : Int) (l : List Int) (wh how k : Int) (E : ATp) (hk : kT n = k) (hE : eTp l wh how k = E) : T.path [false, true, false, true, true, false, false, false, true, false, false, false, false, false, true, true, true, false, true, false, true, true] (T.anon (tpdR n l wh how)) = some (fsT l wh how k E ++ [(decide (Int.tmod (IntKind.wrap .u64 how) 6 = 0), false), (decide (Int.tmod (IntKind.wrap .u64 how) 6 = 1), false), (decide (Int.tmod (IntKind.wrap .u64 how) 6 = 2), false), (decide (Int.tmod (IntKind.wrap .u64 how) 6 = 3), false), (decide (Int.tmod (IntKind.wrap .u64 how) 6 = 4), true), (idR (cpW E.j E.W) (cnJ E.j E.W) (ixW wh k), true), (ldR (cpW E.j E.W) (ixW wh k), true), (false, false), (gdC (cnJ E.j E.W) (stW 4 E.j E.W (ixW wh k)), true), ((cou (vwT E.bz) (stW 4 E.j E.W (ixW wh k))).isSome, false), (true, true), (true, true)], .s (.bool true)) := by subst hE; subst hk; kernel_rfl
def apW (j : Nat) (W : List Pd) : List Pd := (cpW j W).take (cnJ j W) ++ [(0, 2, 0, 0)]
theorem tp_t5 (n : Int) (l : List Int) (wh how k : Int) (E : ATp) (hk : kT n = k) (hE : eTp l wh how k = E) : T.path [false, true, false, true, true, false, false, false, true, false, false, false, false, false, false, true, true, false, true, false, true, true] (T.anon (tpdR n l wh how)) = some (fsT l wh how k E ++ [(decide (Int.tmod (IntKind.wrap .u64 how) 6 = 0), false), (decide (Int.tmod (IntKind.wrap .u64 how) 6 = 1), false), (decide (Int.tmod (IntKind.wrap .u64 how) 6 = 2), false), (decide (Int.tmod (IntKind.wrap .u64 how) 6 = 3), false), (decide (Int.tmod (IntKind.wrap .u64 how) 6 = 4), false), (decide (Int.tmod (IntKind.wrap .u64 how) 6 = 5), true), (apC (cnJ E.j E.W) (cpW E.j E.W) (0, 2, 0, 0), true), (false, false), (gdC (cnJ E.j E.W + [((0, 2, 0, 0) : Pd)].length) (apW E.j E.W), true), ((cou (vwT E.bz) (apW E.j E.W)).isSome, false), (true, true), (true, true)], .s (.bool true)) := by subst hE; subst hk; kernel_rfl
end Go.Proofs.Ytebibmioiigplaa.Tow

/- Layer 25: TowerPods: the law. -/
namespace Go.Proofs.Ytebibmioiigplaa.Tow
open Go.Eng Go.RowKit Rin Mil
set_option linter.unusedVariables false
set_option linter.unusedSimpArgs false
set_option maxRecDepth 100000
theorem couG_bad {t b : Int} {x : Pd} (h : alB t x = false) : ∀ (A B : List Pd) (pv : Option Int) (st bu : Int), couG t b pv st bu (A ++ x :: B) = none
  | [], B, pv, st, bu => by
    show (if _ then none else _) = none
    rw [if_pos (by rw [h]; simp)]
  | y :: A, B, pv, st, bu => by
    show (if _ then none else _) = none
    split
    · rfl
    · exact couG_bad h A B _ _ _
theorem couG_last {t b : Int} {x y : Pd} (h : x.1 ≤ y.1) : ∀ (A : List Pd) (pv : Option Int) (st bu : Int), couG t b pv st bu (A ++ [y, x]) = none
  | [], pv, st, bu => by
    show (if _ then none else (if _ then none else _)) = none
    split
    · rfl
    · rw [if_pos]
      show (!alB t x || decide (x.1 ≤ y.1) || _) = true
      rw [decide_eq_true h]; simp
  | z :: A, pv, st, bu => by
    show (if _ then none else _) = none
    split
    · rfl
    · exact couG_last h A _ _ _
def sumB : List Pd → Int
  | [] => 0
  | x :: r => x.2.2.1 + sumB r
theorem sumB_app : ∀ a b : List Pd, sumB (a ++ b) = sumB a + sumB b
  | [], b => by show sumB b = 0 + sumB b; omega
  | x :: a, b => by have := sumB_app a b; show x.2.2.1 + sumB (a ++ b) = x.2.2.1 + sumB a + sumB b; omega
theorem couG_sum {t b : Int} (b1 : b ≤ 1000000000000) : ∀ (l : List Pd) (pv : Option Int) (st bu : Int) (r : Int × Int), couG t b pv st bu l = some r → 0 ≤ bu → bu ≤ b → r.2 = bu + sumB l ∧ r.2 ≤ b
  | [], pv, st, bu, r, h, h0, h1 => by
    cases h
    exact ⟨by show bu = bu + 0; omega, h1⟩
  | x :: l, pv, st, bu, r, h, h0, h1 => by
    have h : (if (!alB t x || pv.any (fun y => decide (x.1 ≤ y)) || decide (IntKind.wrap .i64 (b - bu) < x.2.2.1)) = true then none else couG t b (some x.1) (if x.2.1 = 3 then st else IntKind.wrap .i64 (st + 1)) (IntKind.wrap .i64 (bu + x.2.2.1)) l) = some r := h
    split at h
    · cases h
    · rename_i hc
      have hc := Bool.eq_false_iff.2 hc
      rw [Bool.or_eq_false_iff, Bool.or_eq_false_iff, Bool.not_eq_false'] at hc
      obtain ⟨⟨al, -⟩, ov⟩ := hc
      have ov := of_decide_eq_false ov
      rw [show IntKind.wrap .i64 (b - bu) = b - bu from wrap64_in (by omega) (by omega)] at ov
      unfold alB b3 at al
      simp at al
      obtain ⟨⟨⟨⟨_, _⟩, x0⟩, x1⟩, _⟩ := al
      have ew : IntKind.wrap .i64 (bu + x.2.2.1) = bu + x.2.2.1 := wrap64_in (by omega) (by omega)
      rw [ew] at h
      obtain ⟨e1, e2⟩ := couG_sum b1 l _ _ _ r h (by omega) (by omega)
      exact ⟨by rw [e1]; show _ = bu + (x.2.2.1 + sumB l); omega, e2⟩
theorem sumT_mono (l : List Int) {i : Nat} : ∀ {n : Nat}, i ≤ n → sumT l i ≤ sumT l n
  | 0, h => by have : i = 0 := by omega
               subst this; exact Int.le_refl _
  | n + 1, h => by
    by_cases q : i = n + 1
    · subst q; exact Int.le_refl _
    · have h1 := sumT_mono l (i := i) (n := n) (by omega)
      have h2 := bI_range l n
      show sumT l i ≤ sumT l n + bI l n; omega
theorem sumB_rows (l : List Int) : ∀ n : Nat, sumB (rowT l n) = sumT l n
  | 0 => rfl
  | n + 1 => by
    rw [rowT_succ, sumB_app, sumB_rows l n]
    show sumT l n + (bI l n + 0) = sumT l n + bI l n; omega
theorem cou_from (l : List Int) {n : Nat} (hn : n ≤ 10) : ∀ (m i : Nat), i + m = n → couG 100 (sumT l n) (if i = 0 then none else some (2 * ((i : Int) - 1))) (i : Int) (sumT l i) ((List.range' i m).map (mkP l)) = some ((n : Int), sumT l n)
  | 0, i, h => by
    have : i = n := by omega
    subst this; rfl
  | m + 1, i, h => by
    have hb := bI_range l i
    have hm := sumT_mono l (i := i + 1) (n := n) (by omega)
    have hs : sumT l (i + 1) = sumT l i + bI l i := rfl
    have h0 := sumT_range l i
    have h1 := sumT_range l n
    show (if (!alB 100 (mkP l i) || Option.any _ _ || decide (IntKind.wrap .i64 (sumT l n - sumT l i) < bI l i)) = true then none else couG 100 (sumT l n) (some (2 * (i : Int))) (if (2 : Int) = 3 then _ else IntKind.wrap .i64 ((i : Int) + 1)) (IntKind.wrap .i64 (sumT l i + bI l i)) ((List.range' (i + 1) m).map (mkP l))) = _
    have al : alB 100 (mkP l i) = true := by
      unfold alB b3 mkP
      simp
      omega
    have an : Option.any (fun y => decide ((mkP l i).1 ≤ y)) (if i = 0 then none else some (2 * ((i : Int) - 1))) = false := by
      split
      · rfl
      · exact decide_eq_false (by show ¬ 2 * (i : Int) ≤ 2 * ((i : Int) - 1); omega)
    rw [al, an, show IntKind.wrap .i64 (sumT l n - sumT l i) = sumT l n - sumT l i from wrap64_in (by omega) (by omega), decide_eq_false (show ¬ sumT l n - sumT l i < bI l i by omega), if_neg (by decide), if_neg (by decide),
      show IntKind.wrap .i64 ((i : Int) + 1) = ((i + 1 : Nat) : Int) from (wrap64_in (by omega) (by omega)).trans (by omega), show IntKind.wrap .i64 (sumT l i + bI l i) = sumT l (i + 1) from (wrap64_in (by omega) (by omega)).trans hs.symm]
    have ih := cou_from l hn m (i + 1) (by omega)
    rw [if_neg (by omega), show 2 * (((i + 1 : Nat) : Int) - 1) = 2 * (i : Int) by omega] at ih
    exact ih
theorem cou_rows (l : List Int) {n : Nat} (hn : n ≤ 10) : cou (vwT (sumT l n)) (rowT l n) = some ((n : Int), sumT l n) := by
  have := cou_from l hn n 0 (by omega)
  unfold rowT
  rw [List.range_eq_range']
  exact this
/-- one spoilt: it is told -/
theorem spoilt (l : List Int) {n : Nat} (hn : n ≤ 10) {i : Nat} (hi : i < n) (h : Nat) (h5 : h < 5) : cou (vwT (sumT l n)) ((rowT l n).set i (nr h (mkP l i))) = none := by
  have hl := rowT_len l n
  have hb := bI_range l i
  have hs := sumT_range l n
  have eg : (rowT l n)[i]'(by omega) = mkP l i := by unfold rowT; simp
  have es : (rowT l n).set i (nr h (mkP l i)) = (rowT l n).take i ++ nr h (mkP l i) :: (rowT l n).drop (i + 1) := by rw [List.set_eq_take_append_cons_drop, if_pos (by omega)]
  by_cases h2 : h = 2
  · subst h2
    cases e : cou (vwT (sumT l n)) ((rowT l n).set i (nr 2 (mkP l i))) with
    | none => rfl
    | some r =>
      obtain ⟨e1, e2⟩ := couG_sum (t := 100) (b := sumT l n) (by omega) _ _ _ _ _ e (Int.le_refl _) hs.1
      have e3 : rowT l n = (rowT l n).take i ++ mkP l i :: (rowT l n).drop (i + 1) := by
        rw [← eg, List.getElem_cons_drop, List.take_append_drop]
      have e4 := sumB_rows l n
      rw [e3, sumB_app] at e4
      have e4 : sumB ((rowT l n).take i) + (bI l i + sumB ((rowT l n).drop (i + 1))) = sumT l n := e4
      rw [es, sumB_app] at e1
      have e1 : r.2 = 0 + (sumB ((rowT l n).take i) + (IntKind.wrap .i64 (bI l i + 1) + sumB ((rowT l n).drop (i + 1)))) := e1
      rw [show IntKind.wrap .i64 (bI l i + 1) = bI l i + 1 from wrap64_in (by omega) (by omega)] at e1
      omega
  · rw [es]
    refine couG_bad ?_ _ _ _ _ _
    have : h = 0 ∨ h = 1 ∨ h = 3 ∨ h = 4 := by omega
    rcases this with rfl | rfl | rfl | rfl
    · show alB 100 _ = false
      unfold alB nr mkP; simp
    · show alB 100 _ = false
      unfold alB nr mkP; simp
    · show alB 100 _ = false
      unfold alB b3 nr mkP; simp
    · show alB 100 _ = false
      unfold alB b3 nr mkP; simp
theorem apnd (l : List Int) {n : Nat} (h1 : 1 ≤ n) : cou (vwT (sumT l n)) (rowT l n ++ [(0, 2, 0, 0)]) = none := by
  obtain ⟨m, rfl⟩ : ∃ m, n = m + 1 := ⟨n - 1, by omega⟩
  rw [rowT_succ, List.append_assoc]
  exact couG_last (by show (0 : Int) ≤ 2 * (m : Int); omega) _ _ _ _
theorem tpd_run (n : Int) (l : List Int) (wh how : Int) : (tpdR n l wh how).yes := by
  unfold T.yes
  right
  rw [← T.eval_anon (t := tpdR n l wh how)]
  have hM := M_range n (m := 10) (by decide) (by decide)
  have ek : kT n = 1 + M n 10 := wrap64_in (by omega) (by omega)
  have hk : 1 ≤ kT n ∧ kT n ≤ 10 := by omega
  have t0 := tp_t0 n l wh how _ _ rfl rfl
  have t1 := tp_t1 n l wh how _ _ rfl rfl
  have t2 := tp_t2 n l wh how _ _ rfl rfl
  have t3 := tp_t3 n l wh how _ _ rfl rfl
  have t4 := tp_t4 n l wh how _ _ rfl rfl
  have t5 := tp_t5 n l wh how _ _ rfl rfl
  revert t0 t1 t2 t3 t4 t5 hk
  clear ek
  generalize kT n = k
  intro hk t0 t1 t2 t3 t4 t5
  have h0 : okTp (pTp l wh how k) ⟨0, 0, 0, []⟩ := ⟨0, rfl, by show 0 ≤ k; omega, by show k ≤ 10; omega, by show (0 : Int) ≤ k; omega, rfl⟩
  have iv := invC_is h0
  obtain ⟨k1, k2⟩ := endC stepTp h0
  have k1 : okTp (pTp l wh how k) (eTp l wh how k) := k1
  have k2 : goTp (pTp l wh how k) (eTp l wh how k) = false := k2
  obtain ⟨i, _, _, _, ik, ea⟩ := k1
  rw [ea] at k2
  have ik : (i : Int) ≤ k := ik
  have k2 : ¬ (i : Int) < k := of_decide_eq_false k2
  have ei : k = (i : Int) := by omega
  have ea : (eTp l wh how k) = ⟨(i : Int), sumT l i, i, rowT l i⟩ := ea
  rw [ea] at t0 t1 t2 t3 t4 t5
  have ea' : (eTp l wh how k) = ⟨(i : Int), sumT l i, i, rowT l i⟩ := ea
  clear ea k2 ik
  subst ei
  have hi : 1 ≤ i ∧ i ≤ 10 := by omega
  have hl := rowT_len l i
  have ecp : cpW i (rowT l i) = rowT l i := by unfold cpW; simp [List.take_of_length_le (show (rowT l i).length ≤ i by omega)]
  have ecn : cnJ i (rowT l i) = i := by unfold cnJ; simp [hl]
  have ecb : cpB i (rowT l i) = true := by
    unfold cpB
    rw [List.drop_zero, List.take_of_length_le (by omega), hl, decide_eq_true (show 0 + i ≤ i by omega), decide_eq_true (show 0 + i ≤ 1000000 by omega)]; rfl
  have eu : IntKind.wrap .u64 (i : Int) = (i : Int) := by rw [IntKind.wrap_u64]; omega
  have ez : (IntKind.wrap .u64 (i : Int) == 0) = false := by rw [eu, beq_eq_false_iff_ne]; omega
  have hix : 0 ≤ ixW wh (i : Int) ∧ ixW wh (i : Int) < (i : Int) := by
    unfold ixW
    rw [eu]
    exact M_range wh (m := (i : Int)) (by omega) (by omega)
  have egd : gdC i (rowT l i) = true := by unfold gdC; rw [hl, decide_eq_true rfl, decide_eq_true (show i ≤ 1000000 by omega)]; rfl
  have ecr := cou_rows l hi.2
  have ebd : bdC (sumT l i) (rowT l i) = false := by
    unfold bdC
    rw [ecr]
    show (bif bif sumT l i != sumT l i then true else decide (100 < (i : Int)) then true else decide (100 < (i : Int))) = false
    rw [bne_self_eq_false, decide_eq_false (show ¬ 100 < (i : Int) by omega)]; rfl
  have hf : allSay (fsT l wh how (i : Int) ⟨(i : Int), sumT l i, i, rowT l i⟩) := ⟨rfl, iv, rfl, egd, by show (cou (vwT (sumT l i)) (rowT l i)).isSome = true; rw [ecr]; rfl, ebd, rfl, ez, ecb, rfl, trivial⟩
  obtain ⟨y1, y2⟩ := idR_is (g := rowT l i) (k := i) (i := ixW wh (i : Int)) (by omega) hix.1 hix.2
  have hget : (rowT l i).getD (0 + (ixW wh (i : Int)).toNat) (0, 0, 0, 0) = mkP l (ixW wh (i : Int)).toNat := by
    rw [List.getD_eq_getElem?_getD, Nat.zero_add]
    unfold rowT
    rw [List.getElem?_map, List.getElem?_range (by omega)]; rfl
  have est : ∀ h, h < 5 → gdC i (stW h i (rowT l i) (ixW wh (i : Int))) = true ∧ (cou (vwT (sumT l i)) (stW h i (rowT l i) (ixW wh (i : Int)))).isSome = false := by
    intro h h5
    unfold stW
    rw [ecp, hget, Nat.zero_add, spoilt l hi.2 (by omega) h h5]
    refine ⟨?_, rfl⟩
    unfold gdC
    rw [List.length_set, hl, decide_eq_true rfl, decide_eq_true (show i ≤ 1000000 by omega)]; rfl
  have eap : apW i (rowT l i) = rowT l i ++ [(0, 2, 0, 0)] := by unfold apW; rw [ecp, ecn, List.take_of_length_le (by omega)]
  have hu : 0 ≤ IntKind.wrap .u64 how := by rw [IntKind.wrap_u64]; omega
  have r0 := Int.tmod_nonneg 6 hu
  have r1 := Int.tmod_lt_of_pos (IntKind.wrap .u64 how) (show (0 : Int) < 6 by decide)
  simp only [ecp, ecn] at t0 t1 t2 t3 t4 t5
  have d : ∀ m : Int, Int.tmod (IntKind.wrap .u64 how) 6 = m → decide (Int.tmod (IntKind.wrap .u64 how) 6 = m) = true := fun m h => decide_eq_true h
  have f : ∀ m : Int, Int.tmod (IntKind.wrap .u64 how) 6 ≠ m → decide (Int.tmod (IntKind.wrap .u64 how) 6 = m) = false := fun m h => decide_eq_false h
  by_cases q0 : Int.tmod (IntKind.wrap .u64 how) 6 = 0
  · exact T.path_eval t0 (allSay_append hf ⟨d 0 q0, y1, y2, rfl, (est 0 (by omega)).1, (est 0 (by omega)).2, rfl, rfl, trivial⟩)
  by_cases q1 : Int.tmod (IntKind.wrap .u64 how) 6 = 1
  · exact T.path_eval t1 (allSay_append hf ⟨f 0 q0, d 1 q1, y1, y2, rfl, (est 1 (by omega)).1, (est 1 (by omega)).2, rfl, rfl, trivial⟩)
  by_cases q2 : Int.tmod (IntKind.wrap .u64 how) 6 = 2
  · exact T.path_eval t2 (allSay_append hf ⟨f 0 q0, f 1 q1, d 2 q2, y1, y2, y1, y2, rfl, (est 2 (by omega)).1, (est 2 (by omega)).2, rfl, rfl, trivial⟩)
  by_cases q3 : Int.tmod (IntKind.wrap .u64 how) 6 = 3
  · exact T.path_eval t3 (allSay_append hf ⟨f 0 q0, f 1 q1, f 2 q2, d 3 q3, y1, y2, rfl, (est 3 (by omega)).1, (est 3 (by omega)).2, rfl, rfl, trivial⟩)
  by_cases q4 : Int.tmod (IntKind.wrap .u64 how) 6 = 4
  · exact T.path_eval t4 (allSay_append hf ⟨f 0 q0, f 1 q1, f 2 q2, f 3 q3, d 4 q4, y1, y2, rfl, (est 4 (by omega)).1, (est 4 (by omega)).2, rfl, rfl, trivial⟩)
  refine T.path_eval t5 (allSay_append hf ⟨f 0 q0, f 1 q1, f 2 q2, f 3 q3, f 4 q4, d 5 (by omega), apC_is _ (by omega) (by omega), rfl, ?_, ?_, rfl, rfl, trivial⟩)
  · show gdC (i + 1) (apW i (rowT l i)) = true
    rw [eap]
    unfold gdC
    rw [List.length_append, hl, decide_eq_true (show i + 1 = i + [((0, 2, 0, 0) : Pd)].length from rfl), decide_eq_true (show i + 1 ≤ 1000000 by omega)]; rfl
  · show (cou (vwT (sumT l i)) (apW i (rowT l i))).isSome = false
    rw [eap, apnd l hi.1]; rfl
theorem tpd_walk (a : Int) (_ : (Lit.int .i64 a).wf = true) (g : List Int) (_ : g.length ≤ maxLen) (_ : ∀ x ∈ g, (Lit.int .i64 x).wf = true) (x : Value) (b : Int) (_ : (Lit.int .i64 b).wf = true) (c : Int) (_ : (Lit.int .i64 c).wf = true) (w : World) (hx : holdsP 0 w (.orow 3 [.int .i64] g) x) :
    Calls Try.prog 16 #[.int .i64 a, x, .int .i64 b, .int .i64 c] w fun e w' => e = .returned (.bool true) ∧ Below w.heap.size w w' :=
  Law.law_rows (args := [.s (.int .i64 a), .orow 3 [.int .i64] g, .s (.int .i64 b), .s (.int .i64 c)]) (xs := [.int .i64 a, x, .int .i64 b, .int .i64 c]) (execS_loops (Λ := byReg [(rgTp, famTq)]) U8_ok mixed Try.func16 (by kernel_rfl) (by kernel_rfl) (one_lp (by kernel_rfl) rgTp_is lpTq_ok)) rfl (tpd_run a g b c) w ⟨rfl, hx, rfl, rfl, trivial⟩
end Go.Proofs.Ytebibmioiigplaa.Tow

