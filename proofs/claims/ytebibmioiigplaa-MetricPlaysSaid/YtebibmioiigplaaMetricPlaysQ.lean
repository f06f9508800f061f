import Derived.Test.YtebibmioiigplaaGL
/- Layer 11: MetricPlays: the document's metric; the loop. -/
namespace Go.Proofs.Ytebibmioiigplaa.Met
open Go.Eng Go.RowKit Mil Rin
set_option linter.unusedVariables false
set_option linter.unusedSimpArgs false
set_option maxRecDepth 100000
noncomputable def DM1 : Cfg := ⟨Try.prog, lookG [(66, .val Conf.mayS), (82, .obj newDS), (83, .obj puS), (100, .obj reS)], [], 0⟩
theorem DM1_ok : DM1.Ok := Cfg.ok ⟨Conf.refmay_ok, newDS_ok, puS_ok, reS_ok, trivial⟩ trivial
noncomputable def dnewE : Eng.Obj := execO DM1 noLoops 40
theorem dnewE_ok : ObjOk Try.prog 40 dnewE := execO_plain DM1_ok Rin.mixed Try.func40 (by kernel_rfl) (by kernel_rfl)
noncomputable def dputE : Eng.Obj := execO DM1 noLoops 43
theorem dputE_ok : ObjOk Try.prog 43 dputE := execO_plain DM1_ok Rin.mixed Try.func43 (by kernel_rfl) (by kernel_rfl)
noncomputable def dovE : Eng.Obj := execO DM1 noLoops 49
theorem dovE_ok : ObjOk Try.prog 49 dovE := execO_plain DM1_ok Rin.mixed Try.func49 (by kernel_rfl) (by kernel_rfl)
noncomputable def DM2 : Cfg := ⟨Try.prog, lookG [(66, .val Conf.mayS), (82, .obj newDS), (100, .obj reS), (49, .obj dovE)], [], 0⟩
theorem DM2_ok : DM2.Ok := Cfg.ok ⟨Conf.refmay_ok, newDS_ok, reS_ok, dovE_ok, trivial⟩ trivial
noncomputable def dchE : Eng.Obj := execO DM2 noLoops 45
theorem dchE_ok : ObjOk Try.prog 45 dchE := execO_plain DM2_ok Rin.mixed Try.func45 (by kernel_rfl) (by kernel_rfl)
noncomputable def MP : Cfg := ⟨Try.prog, lookG [(39, .obj newE), (40, .obj dnewE), (41, .val yesR), (42, .obj putE), (43, .obj dputE), (44, .obj chE), (45, .obj dchE), (46, .obj meaE), (47, .obj meS), (48, .obj ovE), (49, .obj dovE)], EB, 0⟩
theorem MP_ok : MP.Ok := Cfg.ok ⟨newE_ok, dnewE_ok, told11_ok, putE_ok, dputE_ok, chE_ok, dchE_ok, meaE_ok, meS_ok, ovE_ok, dovE_ok, trivial⟩ EB_ok
abbrev KO : List K := [.int .i64, .int .i64, .int .i64, .int .i64, .int .i64, .int .i64, .int .i64, .int .i64, .int .i64, .int .i64, .int .i64, .int .i64, .int .i64, .int .i64, .int .i64, .int .i64, .int .i64, .int .i64, .int .i64, .int .i64, .int .i64, .int .i64, .int .i64]
abbrev O11 := Int × Int × Int × Int × Int × Int × Int × Int × Int × Int × Int × Int × Int × Int × Int × Int × Int × Int × Int × Int × Int × Int × Int
noncomputable def lpMp : Code := loopAt Try.prog 7 0
structure PMp where (k : Nat) (o : List (Int × Int × Int × Int × Int × Int × Int × Int × Int × Int × Int × Int × Int × Int × Int × Int × Int × Int × Int × Int × Int × Int × Int))
structure AMp where (gm : Int) (om : Bool) (w1 : Int) (g1 : Int) (n1 : Nat) (nw1 : Int) (ov1 : Bool) (l1 : List OB) (w2 : Int) (g2 : Int) (n2 : Nat) (nw2 : Int) (ov2 : Bool) (l2 : List OB) (w3 : Int) (g3 : Int) (n3 : Nat) (nw3 : Int) (ov3 : Bool) (l3 : List (Int × Int)) (w4 : Int) (g4 : Int) (n4 : Nat) (nw4 : Int) (ov4 : Bool) (l4 : List (Int × Int)) (i : Int)
abbrev SMp : List (Nat × Src) := [(0, .same), (17, .same), (2000, .path 17 [0, 0]), (2001, .path 17 [0, 1]), (2002, .path 17 [0, 0, 2]), (2003, .path 17 [0, 1, 2]), (33, .same), (2004, .path 33 [0]), (2005, .path 33 [1]), (2006, .path 33 [0, 2]), (2007, .path 33 [1, 2])]
def vsMp (p : PMp) (a : AMp) : List V := [.sub 0 23 0 p.k, .ptr 17 0, .ptr 33 0, iv a.i]
def bsMp (p : PMp) (a : AMp) : List Blk := [.lst false 59 [.int .i64, .int .i64, .int .i64, .int .i64, .int .i64, .int .i64, .int .i64, .int .i64, .int .i64, .int .i64, .int .i64, .int .i64, .int .i64, .int .i64, .int .i64, .int .i64, .int .i64, .int .i64, .int .i64, .int .i64, .int .i64, .int .i64, .int .i64] p.o, .cells 145 [.iface 142 (.agg [.ptr 2000 0, .ptr 2001 0]), iv a.gm, bv a.om], .cells 123 [iv a.w1, iv a.g1, .sub 2002 1 0 a.n1, iv a.nw1, bv a.ov1], .cells 123 [iv a.w2, iv a.g2, .sub 2003 1 0 a.n2, iv a.nw2, bv a.ov2], .bx 20 126 130 [.int .i64, .int .i64, .bool] a.l1 [] none, .bx 20 126 130 [.int .i64, .int .i64, .bool] a.l2 [] none, .cells 63 [.ptr 2004 0, .ptr 2005 0], .cells 149 [iv a.w3, iv a.g3, .sub 2006 2 0 a.n3, iv a.nw3, bv a.ov3], .cells 149 [iv a.w4, iv a.g4, .sub 2007 2 0 a.n4, iv a.nw4, bv a.ov4], .lst true 35 [.int .i64, .int .i64] a.l3, .lst true 35 [.int .i64, .int .i64] a.l4]
noncomputable def FMp (p : PMp) (a : AMp) : St := mkSt [1,5,6,7] (keysR SMp) 2008 130 (vsMp p a) (bsMp p a)
noncomputable def rdMp (p : PMp) (a : AMp) : T (Ex × St) := T.anon (roundN MP noLoops lpMp [1,5,6,7] SMp 2000 2008 (mkSt [1,5,6,7] (keysR SMp) 2008 130 (vsMp p a) (bsMp p a)))
def decMp_v0 : V → Option ((Nat))
  | .sub 0 23 0 k => some (k)
  | _ => none
theorem decMp_v0_ok (b : V) (x0 : (Nat)) (h : decMp_v0 b = some x0) : b = .sub 0 23 0 (x0) := by
  unfold decMp_v0 at h
  split at h
  · cases h
    rfl
  · cases h
def decMp_v1 : V → Option (Unit)
  | .ptr 17 0 => some ()
  | _ => none
theorem decMp_v1_ok (b : V) (x1 : Unit) (h : decMp_v1 b = some x1) : b = .ptr 17 0 := by
  unfold decMp_v1 at h
  split at h
  · cases h
    rfl
  · cases h
def decMp_v2 : V → Option (Unit)
  | .ptr 33 0 => some ()
  | _ => none
theorem decMp_v2_ok (b : V) (x2 : Unit) (h : decMp_v2 b = some x2) : b = .ptr 33 0 := by
  unfold decMp_v2 at h
  split at h
  · cases h
    rfl
  · cases h
def decMp_v3 : V → Option ((Int))
  | .s (.int .i64 i) => some (i)
  | _ => none
theorem decMp_v3_ok (b : V) (x3 : (Int)) (h : decMp_v3 b = some x3) : b = iv (x3) := by
  unfold decMp_v3 at h
  split at h
  · cases h
    rfl
  · cases h
def decMp_b0 (b : Blk) : Option ((List (Int × Int × Int × Int × Int × Int × Int × Int × Int × Int × Int × Int × Int × Int × Int × Int × Int × Int × Int × Int × Int × Int × Int))) := rowsOf false 59 [.int .i64, .int .i64, .int .i64, .int .i64, .int .i64, .int .i64, .int .i64, .int .i64, .int .i64, .int .i64, .int .i64, .int .i64, .int .i64, .int .i64, .int .i64, .int .i64, .int .i64, .int .i64, .int .i64, .int .i64, .int .i64, .int .i64, .int .i64] b
theorem decMp_b0_ok (b : Blk) (y0 : (List (Int × Int × Int × Int × Int × Int × Int × Int × Int × Int × Int × Int × Int × Int × Int × Int × Int × Int × Int × Int × Int × Int × Int))) (h : decMp_b0 b = some y0) : b = .lst false 59 [.int .i64, .int .i64, .int .i64, .int .i64, .int .i64, .int .i64, .int .i64, .int .i64, .int .i64, .int .i64, .int .i64, .int .i64, .int .i64, .int .i64, .int .i64, .int .i64, .int .i64, .int .i64, .int .i64, .int .i64, .int .i64, .int .i64, .int .i64] (y0) := rowsOf_ok h
def decMp_b1 : Blk → Option ((Int) × (Bool))
  | .cells tt0 [.iface tt1 (.agg [.ptr 2000 0, .ptr 2001 0]), .s (.int .i64 gm), .s (.bool om)] => if tt0 = 145 then if tt1 = 142 then some (gm, om) else none else none
  | _ => none
theorem decMp_b1_ok (b : Blk) (y1 : (Int) × (Bool)) (h : decMp_b1 b = some y1) : b = .cells 145 [.iface 142 (.agg [.ptr 2000 0, .ptr 2001 0]), iv (y1.1), bv (y1.2)] := by
  unfold decMp_b1 at h
  split at h
  · obtain ⟨e0, h⟩ := ite_some0 h
    obtain ⟨e1, h⟩ := ite_some0 h
    subst e0 e1
    cases h
    rfl
  · cases h
def decMp_b2 : Blk → Option ((Int) × (Int) × (Nat) × (Int) × (Bool))
  | .cells tt0 [.s (.int .i64 w1), .s (.int .i64 g1), .sub 2002 1 0 n1, .s (.int .i64 nw1), .s (.bool ov1)] => if tt0 = 123 then some (w1, g1, n1, nw1, ov1) else none
  | _ => none
theorem decMp_b2_ok (b : Blk) (y2 : (Int) × (Int) × (Nat) × (Int) × (Bool)) (h : decMp_b2 b = some y2) : b = .cells 123 [iv (y2.1), iv (y2.2.1), .sub 2002 1 0 (y2.2.2.1), iv (y2.2.2.2.1), bv (y2.2.2.2.2)] := by
  unfold decMp_b2 at h
  split at h
  · obtain ⟨e0, h⟩ := ite_some0 h
    subst e0
    cases h
    rfl
  · cases h
def decMp_b3 : Blk → Option ((Int) × (Int) × (Nat) × (Int) × (Bool))
  | .cells tt0 [.s (.int .i64 w2), .s (.int .i64 g2), .sub 2003 1 0 n2, .s (.int .i64 nw2), .s (.bool ov2)] => if tt0 = 123 then some (w2, g2, n2, nw2, ov2) else none
  | _ => none
theorem decMp_b3_ok (b : Blk) (y3 : (Int) × (Int) × (Nat) × (Int) × (Bool)) (h : decMp_b3 b = some y3) : b = .cells 123 [iv (y3.1), iv (y3.2.1), .sub 2003 1 0 (y3.2.2.1), iv (y3.2.2.2.1), bv (y3.2.2.2.2)] := by
  unfold decMp_b3 at h
  split at h
  · obtain ⟨e0, h⟩ := ite_some0 h
    subst e0
    cases h
    rfl
  · cases h
def decMp_b4 : Blk → Option ((List OB))
  | .bx tt0 tt1 tt2 [.int .i64, .int .i64, .bool] l1 [] none => if tt0 = 20 then if tt1 = 126 then if tt2 = 130 then some (l1) else none else none else none
  | _ => none
theorem decMp_b4_ok (b : Blk) (y4 : (List OB)) (h : decMp_b4 b = some y4) : b = .bx 20 126 130 [.int .i64, .int .i64, .bool] (y4) [] none := by
  unfold decMp_b4 at h
  split at h
  · obtain ⟨e0, h⟩ := ite_some0 h
    obtain ⟨e1, h⟩ := ite_some0 h
    obtain ⟨e2, h⟩ := ite_some0 h
    subst e0 e1 e2
    cases h
    rfl
  · cases h
def decMp_b5 : Blk → Option ((List OB))
  | .bx tt0 tt1 tt2 [.int .i64, .int .i64, .bool] l2 [] none => if tt0 = 20 then if tt1 = 126 then if tt2 = 130 then some (l2) else none else none else none
  | _ => none
theorem decMp_b5_ok (b : Blk) (y5 : (List OB)) (h : decMp_b5 b = some y5) : b = .bx 20 126 130 [.int .i64, .int .i64, .bool] (y5) [] none := by
  unfold decMp_b5 at h
  split at h
  · obtain ⟨e0, h⟩ := ite_some0 h
    obtain ⟨e1, h⟩ := ite_some0 h
    obtain ⟨e2, h⟩ := ite_some0 h
    subst e0 e1 e2
    cases h
    rfl
  · cases h
def decMp_b6 : Blk → Option (Unit)
  | .cells tt0 [.ptr 2004 0, .ptr 2005 0] => if tt0 = 63 then some () else none
  | _ => none
theorem decMp_b6_ok (b : Blk) (y6 : Unit) (h : decMp_b6 b = some y6) : b = .cells 63 [.ptr 2004 0, .ptr 2005 0] := by
  unfold decMp_b6 at h
  split at h
  · obtain ⟨e0, h⟩ := ite_some0 h
    subst e0
    cases h
    rfl
  · cases h
def decMp_b7 : Blk → Option ((Int) × (Int) × (Nat) × (Int) × (Bool))
  | .cells tt0 [.s (.int .i64 w3), .s (.int .i64 g3), .sub 2006 2 0 n3, .s (.int .i64 nw3), .s (.bool ov3)] => if tt0 = 149 then some (w3, g3, n3, nw3, ov3) else none
  | _ => none
theorem decMp_b7_ok (b : Blk) (y7 : (Int) × (Int) × (Nat) × (Int) × (Bool)) (h : decMp_b7 b = some y7) : b = .cells 149 [iv (y7.1), iv (y7.2.1), .sub 2006 2 0 (y7.2.2.1), iv (y7.2.2.2.1), bv (y7.2.2.2.2)] := by
  unfold decMp_b7 at h
  split at h
  · obtain ⟨e0, h⟩ := ite_some0 h
    subst e0
    cases h
    rfl
  · cases h
def decMp_b8 : Blk → Option ((Int) × (Int) × (Nat) × (Int) × (Bool))
  | .cells tt0 [.s (.int .i64 w4), .s (.int .i64 g4), .sub 2007 2 0 n4, .s (.int .i64 nw4), .s (.bool ov4)] => if tt0 = 149 then some (w4, g4, n4, nw4, ov4) else none
  | _ => none
theorem decMp_b8_ok (b : Blk) (y8 : (Int) × (Int) × (Nat) × (Int) × (Bool)) (h : decMp_b8 b = some y8) : b = .cells 149 [iv (y8.1), iv (y8.2.1), .sub 2007 2 0 (y8.2.2.1), iv (y8.2.2.2.1), bv (y8.2.2.2.2)] := by
  unfold decMp_b8 at h
  split at h
  · obtain ⟨e0, h⟩ := ite_some0 h
    subst e0
    cases h
    rfl
  · cases h
def decMp_b9 : Blk → Option ((List (Int × Int)))
  | .lst true tt0 [.int .i64, .int .i64] l3 => if tt0 = 35 then some (l3) else none
  | _ => none
theorem decMp_b9_ok (b : Blk) (y9 : (List (Int × Int))) (h : decMp_b9 b = some y9) : b = .lst true 35 [.int .i64, .int .i64] (y9) := by
  unfold decMp_b9 at h
  split at h
  · obtain ⟨e0, h⟩ := ite_some0 h
    subst e0
    cases h
    rfl
  · cases h
def decMp_b10 : Blk → Option ((List (Int × Int)))
  | .lst true tt0 [.int .i64, .int .i64] l4 => if tt0 = 35 then some (l4) else none
  | _ => none
theorem decMp_b10_ok (b : Blk) (y10 : (List (Int × Int))) (h : decMp_b10 b = some y10) : b = .lst true 35 [.int .i64, .int .i64] (y10) := by
  unfold decMp_b10 at h
  split at h
  · obtain ⟨e0, h⟩ := ite_some0 h
    subst e0
    cases h
    rfl
  · cases h
def decMp : List V → List Blk → Option (PMp × AMp)
  | [v0, v1, v2, v3], [b0, b1, b2, b3, b4, b5, b6, b7, b8, b9, b10] => (decMp_v0 v0).bind fun x0 => (decMp_v1 v1).bind fun x1 => (decMp_v2 v2).bind fun x2 => (decMp_v3 v3).bind fun x3 => (decMp_b0 b0).bind fun y0 => (decMp_b1 b1).bind fun y1 => (decMp_b2 b2).bind fun y2 => (decMp_b3 b3).bind fun y3 => (decMp_b4 b4).bind fun y4 => (decMp_b5 b5).bind fun y5 => (decMp_b6 b6).bind fun y6 => (decMp_b7 b7).bind fun y7 => (decMp_b8 b8).bind fun y8 => (decMp_b9 b9).bind fun y9 => (decMp_b10 b10).bind fun y10 => some (⟨(x0), (y0)⟩, ⟨(y1.1), (y1.2), (y2.1), (y2.2.1), (y2.2.2.1), (y2.2.2.2.1), (y2.2.2.2.2), (y4), (y3.1), (y3.2.1), (y3.2.2.1), (y3.2.2.2.1), (y3.2.2.2.2), (y5), (y7.1), (y7.2.1), (y7.2.2.1), (y7.2.2.2.1), (y7.2.2.2.2), (y9), (y8.1), (y8.2.1), (y8.2.2.1), (y8.2.2.2.1), (y8.2.2.2.2), (y10), (x3)⟩)
  | _, _ => none
theorem decMp_ok (l : List V) (b : List Blk) (d : PMp × AMp) (h : decMp l b = some d) : l = vsMp d.1 d.2 ∧ b = bsMp d.1 d.2 := by
  unfold decMp at h
  split at h
  · obtain ⟨x0, hx0, h⟩ := Option.bind_eq_some_iff.1 h
    obtain ⟨x1, hx1, h⟩ := Option.bind_eq_some_iff.1 h
    obtain ⟨x2, hx2, h⟩ := Option.bind_eq_some_iff.1 h
    obtain ⟨x3, hx3, h⟩ := Option.bind_eq_some_iff.1 h
    obtain ⟨y0, hy0, h⟩ := Option.bind_eq_some_iff.1 h
    obtain ⟨y1, hy1, h⟩ := Option.bind_eq_some_iff.1 h
    obtain ⟨y2, hy2, h⟩ := Option.bind_eq_some_iff.1 h
    obtain ⟨y3, hy3, h⟩ := Option.bind_eq_some_iff.1 h
    obtain ⟨y4, hy4, h⟩ := Option.bind_eq_some_iff.1 h
    obtain ⟨y5, hy5, h⟩ := Option.bind_eq_some_iff.1 h
    obtain ⟨y6, hy6, h⟩ := Option.bind_eq_some_iff.1 h
    obtain ⟨y7, hy7, h⟩ := Option.bind_eq_some_iff.1 h
    obtain ⟨y8, hy8, h⟩ := Option.bind_eq_some_iff.1 h
    obtain ⟨y9, hy9, h⟩ := Option.bind_eq_some_iff.1 h
    obtain ⟨y10, hy10, h⟩ := Option.bind_eq_some_iff.1 h
    have ex0 := decMp_v0_ok _ _ hx0
    have ex1 := decMp_v1_ok _ _ hx1
    have ex2 := decMp_v2_ok _ _ hx2
    have ex3 := decMp_v3_ok _ _ hx3
    have ey0 := decMp_b0_ok _ _ hy0
    have ey1 := decMp_b1_ok _ _ hy1
    have ey2 := decMp_b2_ok _ _ hy2
    have ey3 := decMp_b3_ok _ _ hy3
    have ey4 := decMp_b4_ok _ _ hy4
    have ey5 := decMp_b5_ok _ _ hy5
    have ey6 := decMp_b6_ok _ _ hy6
    have ey7 := decMp_b7_ok _ _ hy7
    have ey8 := decMp_b8_ok _ _ hy8
    have ey9 := decMp_b9_ok _ _ hy9
    have ey10 := decMp_b10_ok _ _ hy10
    cases h
    subst ex0 ex1 ex2 ex3 ey0 ey1 ey2 ey3 ey4 ey5 ey6 ey7 ey8 ey9 ey10
    exact ⟨rfl, rfl⟩
  · cases h
noncomputable def rgMp : Nat := (firstReg lpMp).getD 0
theorem rgMp_is : firstReg lpMp = some rgMp := by kernel_rfl
end Go.Proofs.Ytebibmioiigplaa.Met

/- Layer 11: MetricPlays: the ways of a round. -/
namespace Go.Proofs.Ytebibmioiigplaa.Met
open Go.Eng Go.RowKit Mil Rin
set_option linter.unusedVariables false
set_option linter.unusedSimpArgs false
set_option maxRecDepth 100000
structure MS where
  gm : Int
  om : Bool
  s : RS
  q : RS
  d : DS
  e : DS
def stM (m : MS) (i : Int) : AMp := ⟨m.gm, m.om, m.s.w, m.s.g, m.s.n, m.s.nw, m.s.ov, m.s.l, m.q.w, m.q.g, m.q.n, m.q.nw, m.q.ov, m.q.l, m.d.w, m.d.g, m.d.n, m.d.nw, m.d.ov, m.d.l, m.e.w, m.e.g, m.e.n, m.e.nw, m.e.ov, m.e.l, i⟩
def xO11 (o : List O11) (i : Int) : O11 := o.getD (0 + i.toNat) (Row.dflt KO)
def kM (x : O11) : Int := bits .and .i64 x.1 7
def cfM (x : O11) : Conf.Cf := ⟨x.2.2.2.1, x.2.2.2.2.1, x.2.2.2.2.2.1, x.2.2.2.2.2.2.1, x.2.2.2.2.2.2.2.1, x.2.2.2.2.2.2.2.2.1, x.2.2.2.2.2.2.2.2.2.1, x.2.2.2.2.2.2.2.2.2.2.1, x.2.2.2.2.2.2.2.2.2.2.2.1, x.2.2.2.2.2.2.2.2.2.2.2.2.1, x.2.2.2.2.2.2.2.2.2.2.2.2.2.1, x.2.2.2.2.2.2.2.2.2.2.2.2.2.2.1, x.2.2.2.2.2.2.2.2.2.2.2.2.2.2.2.1, x.2.2.2.2.2.2.2.2.2.2.2.2.2.2.2.2.1, x.2.2.2.2.2.2.2.2.2.2.2.2.2.2.2.2.2.1, x.2.2.2.2.2.2.2.2.2.2.2.2.2.2.2.2.2.2.1, x.2.2.2.2.2.2.2.2.2.2.2.2.2.2.2.2.2.2.2.1, x.2.2.2.2.2.2.2.2.2.2.2.2.2.2.2.2.2.2.2.2.1, x.2.2.2.2.2.2.2.2.2.2.2.2.2.2.2.2.2.2.2.2.2.1, x.2.2.2.2.2.2.2.2.2.2.2.2.2.2.2.2.2.2.2.2.2.2⟩
def J2 (p : PMp) (i : Int) : List (Bool × Bool) := [(idR p.o p.k i, true), (ldR p.o i, true)]
noncomputable def meC (z : Bool) (s : RS) (t : Int) : List (Bool × Bool) := bif z then [(decide (0 < s.n), true), (decide (t < 0), true)] else sumC s t
noncomputable def me1 (z : Bool) (s : RS) (t : Int) : Int := bif z then 0 else s.mean t
noncomputable def smR (z : Bool) (s : RS) (t : Int) : RS := bif z then s else s.sum t
def w2 (z : Bool) : List Bool := bif z then [true, true] else [true, false, true]
noncomputable def mD (d : DS) (t : Int) : Int := mnV (smS d t) (smN d t)
def ovP (om : Bool) (s q : RS) : Bool := bif (bif om then true else bif decide (0 < (s.n : Int)) then s.ov else false) then true else bif decide (0 < (q.n : Int)) then q.ov else false
noncomputable def after (z : Bool) (m : MS) (t : Int) : MS := ⟨m.gm, m.om, smR z m.s t, smR z m.q t, m.d.sum t, m.e.sum t⟩
noncomputable def c1M (z : Bool) (m : MS) (t : Int) : Bool := me1 z m.s t != mD m.d t
noncomputable def c2M (z : Bool) (m : MS) (t : Int) : Bool := bif c1M z m t then true else me1 z m.q t != mD m.e t
noncomputable def c3M (z : Bool) (m : MS) (t : Int) : Bool := bif c2M z m t then true else !((ovP m.om (smR z m.s t) (smR z m.q t)) == (bif (m.d.sum t).ov then true else (m.e.sum t).ov))
def gdM (c x : Bool) : Bool := bif c == false && true then x else true
noncomputable def tlM (z : Bool) (p : PMp) (i : Int) (m : MS) (t : Int) : List (Bool × Bool) :=
  J2 p i ++ (meC z m.s t ++ (meC z m.q t ++ (J2 p i ++ (okDC m.d t ++ ([(gdM (c1M z m t) (idR p.o p.k i), true), (gdM (c1M z m t) (ldR p.o i), true), (c1M z m t, false)] ++ (okDC m.e t ++ [(c2M z m t, false), (c2M z m t, false), (c3M z m t, false)]))))))
def chZ (z : Bool) : List Bool := [true, true] ++ (w2 z ++ (w2 z ++ ([true, true] ++ ([true] ++ ([true, true, false] ++ ([true] ++ [false, false, false]))))))
def hdM (p : PMp) (i : Int) : List (Bool × Bool) := (decide (i < (p.k : Int)), true) :: J2 p i
/-- refused -/
theorem wayA (z : Bool) (p : PMp) (m : MS) (i : Int) (x : O11) (hx : xO11 p.o i = x) : T.path ([true, true, true, true, true, true, true, true, true, true, true, true, true, true, true, true, true, false] ++ chZ z) (rdMp p (stM m i)) =
    some (hdM p i ++ ([(decide (kM x < 6), true)] ++ (J2 p i ++ (J2 p i ++ ([(decide (0 < m.s.n), true), (badA x.2.1 x.2.2.1, true), ((1 : Int) != 0, true)] ++ (J2 p i ++ (J2 p i ++ ([(badA x.2.1 x.2.2.1, true), (badA x.2.1 x.2.2.1, true), ((1 : Int) != 1, false)] ++ tlM z p i m x.2.1))))))), (.normal, FMp p (stM (after z m x.2.1) (wI (i + 1))))) := by
  subst hx; cases z <;> kernel_rfl
noncomputable def putM (b c : Bool) (m : MS) (t v : Int) : MS := ⟨m.gm, m.om, m.s.put t v, m.q.put t v, bif b then m.d else m.d.put t v, bif c then m.e else m.e.put t v⟩
theorem wayB (z b c : Bool) (p : PMp) (m : MS) (i : Int) (x : O11) (hx : xO11 p.o i = x) : T.path ([true, true, true, true, true, true, true, true, true, false, true, false, true, false, true, true, true, true, true, false, true, b, false, true, c, false] ++ chZ z) (rdMp p (stM m i)) =
    some (hdM p i ++ ([(decide (kM x < 6), true)] ++ (J2 p i ++ (J2 p i ++ (putC m.s x.2.1 x.2.2.1 ++ ([((0 : Int) != 0, false)] ++ (putC m.q x.2.1 x.2.2.1 ++ (J2 p i ++ (J2 p i ++ (putDC m.d x.2.1 x.2.2.1 b ++ (putDC m.e x.2.1 x.2.2.1 c ++ ([((0 : Int) != 0, false)] ++ tlM z p i (putM b c m x.2.1 x.2.2.1) x.2.1))))))))))), (.normal, FMp p (stM (after z (putM b c m x.2.1 x.2.2.1) x.2.1) (wI (i + 1))))) := by
  subst hx; cases z <;> cases b <;> cases c <;> kernel_rfl
theorem wayC (z : Bool) (p : PMp) (m : MS) (i : Int) (x : O11) (hx : xO11 p.o i = x) : T.path ([true, true, true, false, false] ++ chZ z) (rdMp p (stM m i)) =
    some (hdM p i ++ ([(decide (kM x < 6), false), (kM x == 7, false)] ++ tlM z p i m x.2.1), (.normal, FMp p (stM (after z m x.2.1) (wI (i + 1))))) := by
  subst hx; cases z <;> kernel_rfl
theorem wayD (z : Bool) (p : PMp) (m : MS) (i : Int) (x : O11) (hx : xO11 p.o i = x) : T.path ([true, true, true, false, true, true, true, true, true, true, true, false] ++ chZ z) (rdMp p (stM m i)) =
    some (hdM p i ++ ([(decide (kM x < 6), false), (kM x == 7, true)] ++ (J2 p i ++ ([(!Conf.mayB (cfM x), true)] ++ (J2 p i ++ ([(!Conf.mayB (cfM x), true), ((1 : Int) != 1, false)] ++ tlM z p i m x.2.1))))), (.normal, FMp p (stM (after z m x.2.1) (wI (i + 1))))) := by
  subst hx; cases z <;> kernel_rfl
noncomputable def resM (m : MS) (c : Conf.Cf) : MS := ⟨m.gm, m.om, m.s.res c.stable, m.q.res c.panic, m.d.res c.stable, m.e.res c.panic⟩
noncomputable def rdC (d : DS) (x : Int) : List (Bool × Bool) := [(badX x d.g, false), (pB (OkD x d.g d.nw d.l ∧ d.n = d.l.length), true)]
theorem wayE (z : Bool) (p : PMp) (m : MS) (i : Int) (x : O11) (hx : xO11 p.o i = x) : T.path ([true, true, true, false, true, true, true, false, true, true, false, true, true, false, true, true, true, false, false, false, true, false, true, false] ++ chZ z) (rdMp p (stM m i)) =
    some (hdM p i ++ ([(decide (kM x < 6), false), (kM x == 7, true)] ++ (J2 p i ++ ([(!Conf.mayB (cfM x), false), ((cfM x).grain == m.gm, true)] ++ (resC m.s (cfM x).stable ++ (resC m.q (cfM x).panic ++ (J2 p i ++ ([(!Conf.mayB (cfM x), false), ((cfM x).grain != m.d.g, false)] ++ (rdC m.d (cfM x).stable ++ (rdC m.e (cfM x).panic ++ ([((0 : Int) != 0, false)] ++ tlM z p i (resM m (cfM x)) x.2.1)))))))))), (.normal, FMp p (stM (after z (resM m (cfM x)) x.2.1) (wI (i + 1))))) := by
  subst hx; cases z <;> kernel_rfl
noncomputable def newM (m : MS) (c : Conf.Cf) : MS := ⟨c.grain, ovP m.om m.s m.q, RS.new c.stable c.grain, RS.new c.panic c.grain, ⟨c.stable, c.grain, 0, -1, bif m.d.ov then true else m.e.ov, []⟩, ⟨c.panic, c.grain, 0, -1, false, []⟩⟩
theorem wayF (z : Bool) (p : PMp) (m : MS) (i : Int) (x : O11) (hx : xO11 p.o i = x) : T.path ([true, true, true, false, true, true, true, false, false, false, false, true, true, false, true, false, false, false] ++ chZ z) (rdMp p (stM m i)) =
    some (hdM p i ++ ([(decide (kM x < 6), false), (kM x == 7, true)] ++ (J2 p i ++ ([(!Conf.mayB (cfM x), false), ((cfM x).grain == m.gm, false), (badN (cfM x).stable (cfM x).grain, false), (badN (cfM x).panic (cfM x).grain, false)] ++ (J2 p i ++ ([(!Conf.mayB (cfM x), false), ((cfM x).grain != m.d.g, true), (badN (cfM x).stable (cfM x).grain, false), (badN (cfM x).panic (cfM x).grain, false), ((0 : Int) != 0, false)] ++ tlM z p i (newM m (cfM x)) x.2.1))))), (.normal, FMp p (stM (after z (newM m (cfM x)) x.2.1) (wI (i + 1))))) := by
  subst hx; cases z <;> kernel_rfl
theorem wayMx (p : PMp) (a : AMp) : T.path [false] (rdMp p a) = some ([(decide (a.i < (p.k : Int)), false)], (.exit 0, FMp p a)) := by kernel_rfl
end Go.Proofs.Ytebibmioiigplaa.Met

/- Layer 11: MetricPlays: what stays true; the law. -/
namespace Go.Proofs.Ytebibmioiigplaa.Met
open Go.Eng Go.RowKit Mil Rin
set_option linter.unusedVariables false
set_option linter.unusedSimpArgs false
set_option maxRecDepth 100000
theorem neZ (z : Int) : (z != z) = false := by simp
theorem bup {s : RS} {d : DS} {m k : Nat} (b : BothR s d m) (h : m ≤ k) : BothR s d k := ⟨b.h, b.w, b.g, b.nw, b.ov, b.n, b.ok, b.inw, by have := b.len; omega⟩
def d0 (d : DS) (b : Bool) : DS := ⟨d.w, d.g, d.n, d.nw, b, d.l⟩
/-- the rings hold the same, whatever was cut -/
def RD (s : RS) (d : DS) (m : Nat) : Prop := BothR s (d0 d s.ov) m
theorem RD.mono {s : RS} {d : DS} {m : Nat} (b : RD s d m) : RD s d (m + 1) := BothR.mono b
theorem RD.n0 {s : RS} {d : DS} {m : Nat} (b : RD s d m) : decide (0 < s.n) = true := decide_eq_true b.h.rep.n0
theorem RD.put {s : RS} {d : DS} {m : Nat} (b : RD s d m) (hm : m < 10000) {t v : Int} (t0 : 0 ≤ t) (t1 : t ≤ 1099511627776) (v0 : 0 ≤ v) (v1 : v ≤ 9223372036854775807) :
    allSay (putC s t v) ∧ ∃ c, allSay (putDC d t v c) ∧ RD (s.put t v) (bif c then d else d.put t v) (m + 1) := by
  obtain ⟨c1, q⟩ := BothR.put b hm t0 t1 v0 v1
  refine ⟨c1, ?_⟩
  rcases q with ⟨_, c2, b⟩ | ⟨_, c2, b⟩
  · exact ⟨true, c2, b.mono⟩
  · exact ⟨false, c2, b⟩
theorem RD.res {s : RS} {d : DS} {m : Nat} (b : RD s d m) (hm : m < 10000) {x : Int} (x0 : d.g ≤ x) (x1 : x ≤ 600) : allSay (resC s x) ∧ allSay (rdC d x) ∧ RD (s.res x) (d.res x) m := by
  obtain ⟨c1, c2, b⟩ := BothR.res b hm x0 x1
  exact ⟨c1, ⟨badX_false.2 ⟨x0, x1⟩, pB_is c2, trivial⟩, b⟩
theorem RD.mean {s : RS} {d : DS} {m : Nat} (b : RD s d m) {t : Int} (t1 : t ≤ 9223372036854775807) :
    allSay (meC (decide (t < 0)) s t) ∧ allSay (okDC d t) ∧ me1 (decide (t < 0)) s t = mD d t ∧ RD (smR (decide (t < 0)) s t) (d.sum t) m ∧ ∃ X, (smR (decide (t < 0)) s t).ov = (s.ov || X) ∧ (d.sum t).ov = (d.ov || X) := by
  cases ht : decide (t < 0) with
  | true =>
    have ht' := of_decide_eq_true ht
    obtain ⟨c, s1, s2, b1⟩ := BothR.neg b ht'
    refine ⟨⟨b.n0, ht, trivial⟩, c, ?_, ?_, false, ?_, ?_⟩
    · show (0 : Int) = mnV (smS d t) (smN d t)
      have s1 : smS d t = 0 := s1
      have s2 : smN d t = 0 := s2
      rw [s1, s2]; rfl
    · have e : ((d0 d s.ov).sum t) = d0 (d.sum t) s.ov := by
        show d0 (d.sum t) (s.ov || decide (tpI < sv (wD d.w d.g t d.l))) = _
        rw [wD_neg (by omega), show decide (tpI < sv []) = false from rfl, Bool.or_false]
      rw [e] at b1; exact b1
    · show s.ov = _; rw [Bool.or_false]
    · show (d.ov || decide (tpI < sv (wD d.w d.g t d.l))) = _
      rw [wD_neg (by omega), show decide (tpI < sv []) = false from rfl]
  | false =>
    have ht' : 0 ≤ t := by have := of_decide_eq_false ht; omega
    obtain ⟨c1, c2, s1, s2, b1⟩ := BothR.sum b ht' t1
    have eo : (s.sum t).ov = (s.ov || decide (tpI < sv (wD d.w d.g t d.l))) := b1.ov
    refine ⟨c1, c2, ?_, ?_, _, eo, rfl⟩
    · show s.mean t = mnV (smS d t) (smN d t)
      unfold RS.mean; rw [s1, s2]; rfl
    · show BothR (s.sum t) (d0 (d.sum t) (s.sum t).ov) m
      rw [eo]; exact b1
structure MSok (m : MS) (n : Nat) : Prop where
  s : RD m.s m.d n
  q : RD m.q m.e n
  g1 : m.gm = m.d.g
  g2 : m.gm = m.e.g
  ov : (m.om || m.s.ov || m.q.ov) = (m.d.ov || m.e.ov)
theorem ovP_is {om : Bool} {s q : RS} (h1 : 0 < s.n) (h2 : 0 < q.n) : ovP om s q = (om || s.ov || q.ov) := by
  unfold ovP
  rw [decide_eq_true (show 0 < (s.n : Int) by omega), decide_eq_true (show 0 < (q.n : Int) by omega)]
  cases om <;> cases s.ov <;> rfl
theorem MSok.tail {m : MS} {n : Nat} (h : MSok m n) {p : PMp} {i t : Int} (t1 : t ≤ 9223372036854775807) (hJ : allSay (J2 p i)) : allSay (tlM (decide (t < 0)) p i m t) ∧ MSok (after (decide (t < 0)) m t) n := by
  obtain ⟨a1, a2, a3, a4, X, a5, a6⟩ := h.s.mean t1
  obtain ⟨b1, b2, b3, b4, Y, b5, b6⟩ := h.q.mean t1
  revert a1 a3 a4 a5 b1 b3 b4 b5
  generalize decide (t < 0) = z
  intro a1 a3 a4 a5 b1 b3 b4 b5
  have e1 : c1M z m t = false := by unfold c1M; rw [a3]; exact neZ _
  have e2 : c2M z m t = false := by unfold c2M; rw [e1, b3]; exact neZ _
  have ho : (m.om || (smR z m.s t).ov || (smR z m.q t).ov) = ((m.d.sum t).ov || (m.e.sum t).ov) := by
    have hov := h.ov
    rw [a5, a6, b5, b6]
    revert hov
    cases m.om <;> cases m.s.ov <;> cases m.q.ov <;> cases m.d.ov <;> cases m.e.ov <;> cases X <;> cases Y <;> simp
  have e3 : c3M z m t = false := by
    unfold c3M
    rw [e2, ovP_is a4.h.rep.n0 b4.h.rep.n0, ho]
    cases (m.d.sum t).ov <;> cases (m.e.sum t).ov <;> rfl
  refine ⟨allSay_append hJ (allSay_append a1 (allSay_append b1 (allSay_append hJ (allSay_append a2 (allSay_append ⟨?_, ?_, e1, trivial⟩ (allSay_append b2 ⟨e2, e2, e3, trivial⟩)))))), ⟨a4, b4, h.g1, h.g2, ho⟩⟩
  · have j1 : idR p.o p.k i = true := hJ.1
    unfold gdM; rw [e1, j1]; rfl
  · have j2 : ldR p.o i = true := hJ.2.1
    unfold gdM; rw [e1, j2]; rfl
def msOf (a : AMp) : MS := ⟨a.gm, a.om, ⟨a.w1, a.g1, a.n1, a.nw1, a.ov1, a.l1⟩, ⟨a.w2, a.g2, a.n2, a.nw2, a.ov2, a.l2⟩, ⟨a.w3, a.g3, a.n3, a.nw3, a.ov3, a.l3⟩, ⟨a.w4, a.g4, a.n4, a.nw4, a.ov4, a.l4⟩⟩
structure okMp (p : PMp) (a : AMp) : Prop where
  k : p.k = p.o.length
  k1 : p.k ≤ 100
  wf : ∀ x ∈ p.o, Law.GoodRow KO x
  i0 : 0 ≤ a.i
  i1 : a.i ≤ p.k
  m : MSok (msOf a) a.i.toNat
def goMp (p : PMp) (a : AMp) : Bool := decide (a.i < (p.k : Int))
def muMp (p : PMp) (a : AMp) : Nat := (p.k - a.i).toNat
theorem stepMp (p : PMp) (a : AMp) (h : okMp p a) (hg : goMp p a = true) : ∃ b, stepC okMp rdMp FMp muMp p a b := by
  obtain ⟨hk, k1, wf, i0, i1, hm⟩ := h
  have hi : a.i < (p.k : Int) := of_decide_eq_true hg
  have hw : wI (a.i + 1) = a.i + 1 := wrap64_in (by omega) (by omega)
  obtain ⟨x1, x2⟩ := idR_is (g := p.o) (k := p.k) (i := a.i) hk i0 hi
  have hlt : a.i.toNat < p.o.length := by omega
  have hJ : allSay (J2 p a.i) := ⟨x1, x2, trivial⟩
  have hx : xO11 p.o a.i = p.o[a.i.toNat] := getD0 rfl hlt
  have good := wf _ (List.getElem_mem hlt)
  rw [← hx] at good
  have fin : ∀ m : MS, MSok m (a.i.toNat + 1) → okMp p (stM m (wI (a.i + 1))) ∧ muMp p (stM m (wI (a.i + 1))) < muMp p a := by
    intro m h1
    have e : (stM m (wI (a.i + 1))).i = a.i + 1 := hw
    refine ⟨⟨hk, k1, wf, by rw [e]; omega, by rw [e]; omega, ?_⟩, ?_⟩
    · show MSok m (wI (a.i + 1)).toNat
      rw [hw, show (a.i + 1).toNat = a.i.toNat + 1 by omega]; exact h1
    · show (p.k - wI (a.i + 1)).toNat < (p.k - a.i).toNat; rw [hw]; omega
  have wA := fun z => wayA z p (msOf a) a.i _ rfl
  have wB := fun z b c => wayB z b c p (msOf a) a.i _ rfl
  have wC := fun z => wayC z p (msOf a) a.i _ rfl
  have wD := fun z => wayD z p (msOf a) a.i _ rfl
  have wE := fun z => wayE z p (msOf a) a.i _ rfl
  have wF := fun z => wayF z p (msOf a) a.i _ rfl
  have gt : ∀ x : O11, Law.GoodRow KO x → x.2.1 ≤ 9223372036854775807 ∧ x.2.2.1 ≤ 9223372036854775807 := by
    intro x hx
    exact ⟨(wf64 (hx (.int .i64 x.2.1) (.tail _ (.head _)))).2, (wf64 (hx (.int .i64 x.2.2.1) (.tail _ (.tail _ (.head _))))).2⟩
  obtain ⟨t1, v1⟩ := gt _ good
  generalize xO11 p.o a.i = x at *
  have hH : allSay (hdM p a.i) := ⟨hg, hJ⟩
  have go : ∀ {c : List (Bool × Bool)} {ch : List Bool} {m}, T.path ch (rdMp p (stM (msOf a) a.i)) = some (c, (.normal, FMp p (stM m (wI (a.i + 1))))) → allSay c → MSok m (a.i.toNat + 1) → ∃ b, stepC okMp rdMp FMp muMp p a b := by
    intro c ch m hp hc b
    obtain ⟨k1, k2⟩ := fin m b
    exact ⟨_, T.path_eval hp hc, k1, k2⟩
  have hm1 : MSok (msOf a) (a.i.toNat + 1) := ⟨hm.s.mono, hm.q.mono, hm.g1, hm.g2, hm.ov⟩
  have hn : a.i.toNat < 10000 := by omega
  cases k6 : decide (kM x < 6) with
  | true =>
    cases hb : badA x.2.1 x.2.2.1 with
    | true =>
      obtain ⟨tl, tm⟩ := hm1.tail t1 hJ
      exact go (wA _) (allSay_append hH (allSay_append ⟨k6, trivial⟩ (allSay_append hJ (allSay_append hJ (allSay_append ⟨hm.s.n0, hb, rfl, trivial⟩ (allSay_append hJ (allSay_append hJ (allSay_append ⟨hb, hb, rfl, trivial⟩ tl)))))))) tm
    | false =>
      obtain ⟨t0, t2, v0⟩ := badA_false.1 hb
      obtain ⟨a1, b, a2, a3⟩ := hm.s.put hn t0 t2 v0 v1
      obtain ⟨b1, c, b2, b3⟩ := hm.q.put hn t0 t2 v0 v1
      have hm2 : MSok (putM b c (msOf a) x.2.1 x.2.2.1) (a.i.toNat + 1) := by
        refine ⟨a3, b3, ?_, ?_, ?_⟩
        · show (msOf a).gm = (bif b then (msOf a).d else (msOf a).d.put x.2.1 x.2.2.1).g
          cases b
          · exact hm.g1
          · exact hm.g1
        · show (msOf a).gm = (bif c then (msOf a).e else (msOf a).e.put x.2.1 x.2.2.1).g
          cases c
          · exact hm.g2
          · exact hm.g2
        · show ((msOf a).om || (msOf a).s.ov || (msOf a).q.ov) = ((bif b then (msOf a).d else (msOf a).d.put x.2.1 x.2.2.1).ov || (bif c then (msOf a).e else (msOf a).e.put x.2.1 x.2.2.1).ov)
          rw [hm.ov]; cases b <;> cases c <;> rfl
      obtain ⟨tl, tm⟩ := hm2.tail t1 hJ
      exact go (wB _ b c) (allSay_append hH (allSay_append ⟨k6, trivial⟩ (allSay_append hJ (allSay_append hJ (allSay_append a1 (allSay_append ⟨rfl, trivial⟩ (allSay_append b1 (allSay_append hJ (allSay_append hJ (allSay_append a2 (allSay_append b2 (allSay_append ⟨rfl, trivial⟩ tl)))))))))))) tm
  | false =>
    cases k7 : kM x == 7 with
    | false =>
      obtain ⟨tl, tm⟩ := hm1.tail t1 hJ
      exact go (wC _) (allSay_append hH (allSay_append ⟨k6, k7, trivial⟩ tl)) tm
    | true =>
      cases hc : Conf.mayB (cfM x) with
      | false =>
        have hc' : (!Conf.mayB (cfM x)) = true := by rw [hc]; rfl
        obtain ⟨tl, tm⟩ := hm1.tail t1 hJ
        exact go (wD _) (allSay_append hH (allSay_append ⟨k6, k7, trivial⟩ (allSay_append hJ (allSay_append ⟨hc', trivial⟩ (allSay_append hJ (allSay_append ⟨hc', rfl, trivial⟩ tl)))))) tm
      | true =>
        have hc' : (!Conf.mayB (cfM x)) = false := by rw [hc]; rfl
        have may := Conf.may_of hc
        have q1 := may.stable
        have q2 := may.panic
        have q3 := may.grain
        cases hgr : (cfM x).grain == (msOf a).gm with
        | true =>
          have eg : (cfM x).grain = (msOf a).gm := beq_iff_eq.1 hgr
          have eg1 := eg.trans hm.g1
          have eg2 := eg.trans hm.g2
          have ne : ((cfM x).grain != (msOf a).d.g) = false := by rw [eg1]; exact neZ _
          obtain ⟨a1, a2, a3⟩ := hm.s.res hn (x := (cfM x).stable) (by rw [← eg1]; omega) (by omega)
          obtain ⟨b1, b2, b3⟩ := hm.q.res hn (x := (cfM x).panic) (by rw [← eg2]; omega) (by omega)
          have hm2 : MSok (resM (msOf a) (cfM x)) (a.i.toNat + 1) := ⟨a3.mono, b3.mono, hm.g1, hm.g2, hm.ov⟩
          obtain ⟨tl, tm⟩ := hm2.tail t1 hJ
          exact go (wE _) (allSay_append hH (allSay_append ⟨k6, k7, trivial⟩ (allSay_append hJ (allSay_append ⟨hc', hgr, trivial⟩ (allSay_append a1 (allSay_append b1 (allSay_append hJ (allSay_append ⟨hc', ne, trivial⟩ (allSay_append a2 (allSay_append b2 (allSay_append ⟨rfl, trivial⟩ tl))))))))))) tm
        | false =>
          have ne : ((cfM x).grain != (msOf a).d.g) = true := by
            have := hm.g1
            unfold bne
            rw [← this, hgr]; rfl
          have n1 : badN (cfM x).stable (cfM x).grain = false := badN_false.2 ⟨by omega, by omega, by omega⟩
          have n2 : badN (cfM x).panic (cfM x).grain = false := badN_false.2 ⟨by omega, by omega, by omega⟩
          have hm2 : MSok (newM (msOf a) (cfM x)) (a.i.toNat + 1) := by
            have z1 : RD (RS.new (cfM x).stable (cfM x).grain) ⟨(cfM x).stable, (cfM x).grain, 0, -1, bif (msOf a).d.ov then true else (msOf a).e.ov, []⟩ 0 := BothR.new (by omega) (by omega) (by omega)
            have z2 : RD (RS.new (cfM x).panic (cfM x).grain) ⟨(cfM x).panic, (cfM x).grain, 0, -1, false, []⟩ 0 := BothR.new (by omega) (by omega) (by omega)
            refine ⟨bup z1 (by omega), bup z2 (by omega), rfl, rfl, ?_⟩
            show (ovP (msOf a).om (msOf a).s (msOf a).q || false || false) = ((bif (msOf a).d.ov then true else (msOf a).e.ov) || false)
            rw [ovP_is hm.s.h.rep.n0 hm.q.h.rep.n0, hm.ov]
            cases (msOf a).d.ov <;> cases (msOf a).e.ov <;> rfl
          obtain ⟨tl, tm⟩ := hm2.tail t1 hJ
          exact go (wF _) (allSay_append hH (allSay_append ⟨k6, k7, trivial⟩ (allSay_append hJ (allSay_append ⟨hc', hgr, n1, n2, trivial⟩ (allSay_append hJ (allSay_append ⟨hc', ne, n1, n2, rfl, trivial⟩ tl)))))) tm
theorem exMp (p : PMp) (a : AMp) (h : okMp p a) (hg : goMp p a = false) : (rdMp p a).eval = some (.exit 0, FMp p a) := T.path_eval (wayMx p a) ⟨hg, trivial⟩
noncomputable def famMp : LSpec := famC [1,5,6,7] SMp 2000 2008 130 decMp okMp goMp rdMp FMp muMp (.exit 0)
theorem lpMp_ok : LoopOk MP lpMp famMp := famC_ok (vs := vsMp) (bs := bsMp) MP_ok mixed (noLoops_ok _) decMp_ok (by simp) (fun _ _ => rfl) (fun _ _ => rfl) stepMp exMp
noncomputable def plR (c : Conf.Cf) (l : List O11) : T V := execS MP (byReg [(rgMp, famMp)]) 7 [Conf.confV c, .orow 59 KO l]
def pM (l : List O11) : PMp := ⟨l.length, l⟩
def mM (c : Conf.Cf) : MS := ⟨c.grain, false, RS.new c.stable c.grain, RS.new c.panic c.grain, ⟨c.stable, c.grain, 0, -1, false, []⟩, ⟨c.panic, c.grain, 0, -1, false, []⟩⟩
theorem plR_0 (c : Conf.Cf) (l : List O11) : T.path [true, true] (T.anon (plR c l)) = some ([(!Conf.mayB c, true), (!Conf.mayB c, true)], .tt) := by kernel_rfl
theorem plR_1 (c : Conf.Cf) (l : List O11) : T.path [false, false, false, false, false, false, true] (T.anon (plR c l)) = some ([(!Conf.mayB c, false), (badN c.stable c.grain, false), (badN c.panic c.grain, false), (!Conf.mayB c, false), (badN c.stable c.grain, false), (badN c.panic c.grain, false), (decide (100 < (l.length : Int)), true)], .tt) := by kernel_rfl
theorem plR_2 (c : Conf.Cf) (l : List O11) : T.path [false, false, false, false, false, false, false, true] (T.anon (plR c l)) = some ([(!Conf.mayB c, false), (badN c.stable c.grain, false), (badN c.panic c.grain, false), (!Conf.mayB c, false), (badN c.stable c.grain, false), (badN c.panic c.grain, false), (decide (100 < (l.length : Int)), false), (invC okMp (pM l) (stM (mM c) 0), true)], .tt) := by kernel_rfl
theorem pl_run (c : Conf.Cf) (l : List O11) (wf : ∀ x ∈ l, Law.GoodRow KO x) : (plR c l).eval = some .tt := by
  rw [← T.eval_anon (t := plR c l)]
  cases hc : Conf.mayB c with
  | false =>
    have hc' : (!Conf.mayB c) = true := by rw [hc]; rfl
    exact T.path_eval (plR_0 c l) ⟨hc', hc', trivial⟩
  | true =>
    have hc' : (!Conf.mayB c) = false := by rw [hc]; rfl
    have may := Conf.may_of hc
    have q1 := may.stable
    have q2 := may.panic
    have q3 := may.grain
    have n1 : badN c.stable c.grain = false := badN_false.2 ⟨by omega, by omega, by omega⟩
    have n2 : badN c.panic c.grain = false := badN_false.2 ⟨by omega, by omega, by omega⟩
    by_cases hl : 100 < (l.length : Int)
    · exact T.path_eval (plR_1 c l) ⟨hc', n1, n2, hc', n1, n2, decide_eq_true hl, trivial⟩
    · have z1 : RD (RS.new c.stable c.grain) ⟨c.stable, c.grain, 0, -1, false, []⟩ 0 := BothR.new (by omega) (by omega) (by omega)
      have z2 : RD (RS.new c.panic c.grain) ⟨c.panic, c.grain, 0, -1, false, []⟩ 0 := BothR.new (by omega) (by omega) (by omega)
      have o : okMp (pM l) (stM (mM c) 0) := ⟨rfl, by show l.length ≤ 100; omega, wf, Int.le_refl 0, by show (0 : Int) ≤ (l.length : Int); omega, ⟨z1, z2, rfl, rfl, rfl⟩⟩
      exact T.path_eval (plR_2 c l) ⟨hc', n1, n2, hc', n1, n2, decide_eq_false hl, invC_is o, trivial⟩
theorem pl_walk (c : Conf.Cf) (_ : c.Ok) (l : List O11) (_ : l.length ≤ maxLen) (wf : ∀ x ∈ l, Law.GoodRow KO x) (x : Value) (W : World) (hx : holdsP 0 W (.orow 59 KO l) x) :
    Calls Try.prog 7 #[.agg #[.int .i64 c.target, .int .i64 c.util, .int .i64 c.stable, .int .i64 c.panic, .int .i64 c.grain, .int .i64 c.threshold, .int .i64 c.up, .int .i64 c.down, .int .i64 c.min, .int .i64 c.max, .int .i64 c.initial, .int .i64 c.grace, .int .i64 c.delay, .int .i64 c.burst, .int .i64 c.limit, .int .i64 c.queue, .int .i64 c.timeout, .int .i64 c.ready, .int .i64 c.subset, .int .i64 c.sample], x] W fun e w' => e = .returned (.bool true) ∧ Below W.heap.size W w' :=
  Law.law_rows (args := [Conf.confV c, .orow 59 KO l]) (xs := [.agg #[.int .i64 c.target, .int .i64 c.util, .int .i64 c.stable, .int .i64 c.panic, .int .i64 c.grain, .int .i64 c.threshold, .int .i64 c.up, .int .i64 c.down, .int .i64 c.min, .int .i64 c.max, .int .i64 c.initial, .int .i64 c.grace, .int .i64 c.delay, .int .i64 c.burst, .int .i64 c.limit, .int .i64 c.queue, .int .i64 c.timeout, .int .i64 c.ready, .int .i64 c.subset, .int .i64 c.sample], x]) (execS_loops (Λ := byReg [(rgMp, famMp)]) MP_ok Rin.mixed Try.func7 (by kernel_rfl) (by kernel_rfl) (one_lp (by kernel_rfl) rgMp_is lpMp_ok)) rfl (.inl (pl_run c l wf)) W ⟨rfl, hx, trivial⟩
end Go.Proofs.Ytebibmioiigplaa.Met

