import Derived.Test.YtebibmioiigplaaGL
/- Layer 11: MetricKeeps, MetricSudden: what they call. -/
namespace Go.Proofs.Ytebibmioiigplaa.Met
open Go.Eng Go.RowKit Mil Rin
set_option linter.unusedVariables false
set_option linter.unusedSimpArgs false
abbrev wU (n : Int) : Int := IntKind.wrap .u64 n
noncomputable def MK : Cfg := ⟨Try.prog, lookG [(39, .obj newE), (41, .val yesR), (42, .obj putE), (44, .obj chE), (46, .obj meaE), (48, .obj ovE), (50, .val Conf.dfltS)], EB, 0⟩
theorem MK_ok : MK.Ok := Cfg.ok ⟨newE_ok, told11_ok, putE_ok, chE_ok, meaE_ok, ovE_ok, Conf.refdflt_ok, trivial⟩ EB_ok
end Go.Proofs.Ytebibmioiigplaa.Met

/- Layer 11: MetricKeeps, MetricSudden: their loops. -/
namespace Go.Proofs.Ytebibmioiigplaa.Met
open Go.Eng Go.RowKit Mil Rin
set_option linter.unusedVariables false
set_option linter.unusedSimpArgs false
set_option maxRecDepth 100000
noncomputable def lpMk : Code := loopAt Try.prog 9 0
structure PMk where (k : Nat) (o : List Int) (a0 : Int) (b0 : Int) (c0 c1 c2 c3 c4 c5 c6 c7 c8 c9 c10 c11 c12 c13 c14 c15 c16 c17 c18 c19 : Int)
structure AMk where (gm : Int) (om : Bool) (w1 : Int) (g1 : Int) (n1 : Nat) (nw1 : Int) (ov1 : Bool) (l1 : List OB) (w2 : Int) (g2 : Int) (n2 : Nat) (nw2 : Int) (ov2 : Bool) (l2 : List OB) (n : Int) (i : Int)
abbrev SMk : List (Nat × Src) := [(0, .same), (1, .same), (17, .same), (2000, .path 17 [0, 0]), (2001, .path 17 [0, 1]), (2002, .path 17 [0, 0, 2]), (2003, .path 17 [0, 1, 2])]
def vsMk (p : PMk) (a : AMk) : List V := [.sub 0 1 0 p.k, iv p.a0, iv p.b0, .ptr 1 0, .ptr 17 0, iv a.n, iv a.i]
def bsMk (p : PMk) (a : AMk) : List Blk := [.lst false 2 [.int .i64] p.o, .cells 52 [iv p.c0, iv p.c1, iv p.c2, iv p.c3, iv p.c4, iv p.c5, iv p.c6, iv p.c7, iv p.c8, iv p.c9, iv p.c10, iv p.c11, iv p.c12, iv p.c13, iv p.c14, iv p.c15, iv p.c16, iv p.c17, iv p.c18, iv p.c19], .cells 145 [.iface 142 (.agg [.ptr 2000 0, .ptr 2001 0]), iv a.gm, bv a.om], .cells 123 [iv a.w1, iv a.g1, .sub 2002 1 0 a.n1, iv a.nw1, bv a.ov1], .cells 123 [iv a.w2, iv a.g2, .sub 2003 1 0 a.n2, iv a.nw2, bv a.ov2], .bx 20 126 130 [.int .i64, .int .i64, .bool] a.l1 [] none, .bx 20 126 130 [.int .i64, .int .i64, .bool] a.l2 [] none]
noncomputable def FMk (p : PMk) (a : AMk) : St := mkSt [0,1,2,7,8,9,10] (keysR SMk) 2004 110 (vsMk p a) (bsMk p a)
noncomputable def rdMk (p : PMk) (a : AMk) : T (Ex × St) := T.anon (roundN MK noLoops lpMk [0,1,2,7,8,9,10] SMk 2000 2004 (mkSt [0,1,2,7,8,9,10] (keysR SMk) 2004 110 (vsMk p a) (bsMk p a)))
def decMk_v0 : V → Option ((Nat))
  | .sub 0 1 0 k => some (k)
  | _ => none
theorem decMk_v0_ok (b : V) (x0 : (Nat)) (h : decMk_v0 b = some x0) : b = .sub 0 1 0 (x0) := by
  unfold decMk_v0 at h
  split at h
  · cases h
    rfl
  · cases h
def decMk_v1 : V → Option ((Int))
  | .s (.int .i64 a0) => some (a0)
  | _ => none
theorem decMk_v1_ok (b : V) (x1 : (Int)) (h : decMk_v1 b = some x1) : b = iv (x1) := by
  unfold decMk_v1 at h
  split at h
  · cases h
    rfl
  · cases h
def decMk_v2 : V → Option ((Int))
  | .s (.int .i64 b0) => some (b0)
  | _ => none
theorem decMk_v2_ok (b : V) (x2 : (Int)) (h : decMk_v2 b = some x2) : b = iv (x2) := by
  unfold decMk_v2 at h
  split at h
  · cases h
    rfl
  · cases h
def decMk_v3 : V → Option (Unit)
  | .ptr 1 0 => some ()
  | _ => none
theorem decMk_v3_ok (b : V) (x3 : Unit) (h : decMk_v3 b = some x3) : b = .ptr 1 0 := by
  unfold decMk_v3 at h
  split at h
  · cases h
    rfl
  · cases h
def decMk_v4 : V → Option (Unit)
  | .ptr 17 0 => some ()
  | _ => none
theorem decMk_v4_ok (b : V) (x4 : Unit) (h : decMk_v4 b = some x4) : b = .ptr 17 0 := by
  unfold decMk_v4 at h
  split at h
  · cases h
    rfl
  · cases h
def decMk_v5 : V → Option ((Int))
  | .s (.int .i64 n) => some (n)
  | _ => none
theorem decMk_v5_ok (b : V) (x5 : (Int)) (h : decMk_v5 b = some x5) : b = iv (x5) := by
  unfold decMk_v5 at h
  split at h
  · cases h
    rfl
  · cases h
def decMk_v6 : V → Option ((Int))
  | .s (.int .i64 i) => some (i)
  | _ => none
theorem decMk_v6_ok (b : V) (x6 : (Int)) (h : decMk_v6 b = some x6) : b = iv (x6) := by
  unfold decMk_v6 at h
  split at h
  · cases h
    rfl
  · cases h
def decMk_b0 : Blk → Option ((List Int))
  | .lst false tt0 [.int .i64] o => if tt0 = 2 then some (o) else none
  | _ => none
theorem decMk_b0_ok (b : Blk) (y0 : (List Int)) (h : decMk_b0 b = some y0) : b = .lst false 2 [.int .i64] (y0) := by
  unfold decMk_b0 at h
  split at h
  · obtain ⟨e0, h⟩ := ite_some0 h
    subst e0
    cases h
    rfl
  · cases h
def decMk_b1 : Blk → Option ((Int) × (Int) × (Int) × (Int) × (Int) × (Int) × (Int) × (Int) × (Int) × (Int) × (Int) × (Int) × (Int) × (Int) × (Int) × (Int) × (Int) × (Int) × (Int) × (Int))
  | .cells tt0 [.s (.int .i64 c0), .s (.int .i64 c1), .s (.int .i64 c2), .s (.int .i64 c3), .s (.int .i64 c4), .s (.int .i64 c5), .s (.int .i64 c6), .s (.int .i64 c7), .s (.int .i64 c8), .s (.int .i64 c9), .s (.int .i64 c10), .s (.int .i64 c11), .s (.int .i64 c12), .s (.int .i64 c13), .s (.int .i64 c14), .s (.int .i64 c15), .s (.int .i64 c16), .s (.int .i64 c17), .s (.int .i64 c18), .s (.int .i64 c19)] => if tt0 = 52 then some (c0, c1, c2, c3, c4, c5, c6, c7, c8, c9, c10, c11, c12, c13, c14, c15, c16, c17, c18, c19) else none
  | _ => none
theorem decMk_b1_ok (b : Blk) (y1 : (Int) × (Int) × (Int) × (Int) × (Int) × (Int) × (Int) × (Int) × (Int) × (Int) × (Int) × (Int) × (Int) × (Int) × (Int) × (Int) × (Int) × (Int) × (Int) × (Int)) (h : decMk_b1 b = some y1) : b = .cells 52 [iv (y1.1), iv (y1.2.1), iv (y1.2.2.1), iv (y1.2.2.2.1), iv (y1.2.2.2.2.1), iv (y1.2.2.2.2.2.1), iv (y1.2.2.2.2.2.2.1), iv (y1.2.2.2.2.2.2.2.1), iv (y1.2.2.2.2.2.2.2.2.1), iv (y1.2.2.2.2.2.2.2.2.2.1), iv (y1.2.2.2.2.2.2.2.2.2.2.1), iv (y1.2.2.2.2.2.2.2.2.2.2.2.1), iv (y1.2.2.2.2.2.2.2.2.2.2.2.2.1), iv (y1.2.2.2.2.2.2.2.2.2.2.2.2.2.1), iv (y1.2.2.2.2.2.2.2.2.2.2.2.2.2.2.1), iv (y1.2.2.2.2.2.2.2.2.2.2.2.2.2.2.2.1), iv (y1.2.2.2.2.2.2.2.2.2.2.2.2.2.2.2.2.1), iv (y1.2.2.2.2.2.2.2.2.2.2.2.2.2.2.2.2.2.1), iv (y1.2.2.2.2.2.2.2.2.2.2.2.2.2.2.2.2.2.2.1), iv (y1.2.2.2.2.2.2.2.2.2.2.2.2.2.2.2.2.2.2.2)] := by
  unfold decMk_b1 at h
  split at h
  · obtain ⟨e0, h⟩ := ite_some0 h
    subst e0
    cases h
    rfl
  · cases h
def decMk_b2 : Blk → Option ((Int) × (Bool))
  | .cells tt0 [.iface tt1 (.agg [.ptr 2000 0, .ptr 2001 0]), .s (.int .i64 gm), .s (.bool om)] => if tt0 = 145 then if tt1 = 142 then some (gm, om) else none else none
  | _ => none
theorem decMk_b2_ok (b : Blk) (y2 : (Int) × (Bool)) (h : decMk_b2 b = some y2) : b = .cells 145 [.iface 142 (.agg [.ptr 2000 0, .ptr 2001 0]), iv (y2.1), bv (y2.2)] := by
  unfold decMk_b2 at h
  split at h
  · obtain ⟨e0, h⟩ := ite_some0 h
    obtain ⟨e1, h⟩ := ite_some0 h
    subst e0 e1
    cases h
    rfl
  · cases h
def decMk_b3 : Blk → Option ((Int) × (Int) × (Nat) × (Int) × (Bool))
  | .cells tt0 [.s (.int .i64 w1), .s (.int .i64 g1), .sub 2002 1 0 n1, .s (.int .i64 nw1), .s (.bool ov1)] => if tt0 = 123 then some (w1, g1, n1, nw1, ov1) else none
  | _ => none
theorem decMk_b3_ok (b : Blk) (y3 : (Int) × (Int) × (Nat) × (Int) × (Bool)) (h : decMk_b3 b = some y3) : b = .cells 123 [iv (y3.1), iv (y3.2.1), .sub 2002 1 0 (y3.2.2.1), iv (y3.2.2.2.1), bv (y3.2.2.2.2)] := by
  unfold decMk_b3 at h
  split at h
  · obtain ⟨e0, h⟩ := ite_some0 h
    subst e0
    cases h
    rfl
  · cases h
def decMk_b4 : Blk → Option ((Int) × (Int) × (Nat) × (Int) × (Bool))
  | .cells tt0 [.s (.int .i64 w2), .s (.int .i64 g2), .sub 2003 1 0 n2, .s (.int .i64 nw2), .s (.bool ov2)] => if tt0 = 123 then some (w2, g2, n2, nw2, ov2) else none
  | _ => none
theorem decMk_b4_ok (b : Blk) (y4 : (Int) × (Int) × (Nat) × (Int) × (Bool)) (h : decMk_b4 b = some y4) : b = .cells 123 [iv (y4.1), iv (y4.2.1), .sub 2003 1 0 (y4.2.2.1), iv (y4.2.2.2.1), bv (y4.2.2.2.2)] := by
  unfold decMk_b4 at h
  split at h
  · obtain ⟨e0, h⟩ := ite_some0 h
    subst e0
    cases h
    rfl
  · cases h
def decMk_b5 : Blk → Option ((List OB))
  | .bx tt0 tt1 tt2 [.int .i64, .int .i64, .bool] l1 [] none => if tt0 = 20 then if tt1 = 126 then if tt2 = 130 then some (l1) else none else none else none
  | _ => none
theorem decMk_b5_ok (b : Blk) (y5 : (List OB)) (h : decMk_b5 b = some y5) : b = .bx 20 126 130 [.int .i64, .int .i64, .bool] (y5) [] none := by
  unfold decMk_b5 at h
  split at h
  · obtain ⟨e0, h⟩ := ite_some0 h
    obtain ⟨e1, h⟩ := ite_some0 h
    obtain ⟨e2, h⟩ := ite_some0 h
    subst e0 e1 e2
    cases h
    rfl
  · cases h
def decMk_b6 : Blk → Option ((List OB))
  | .bx tt0 tt1 tt2 [.int .i64, .int .i64, .bool] l2 [] none => if tt0 = 20 then if tt1 = 126 then if tt2 = 130 then some (l2) else none else none else none
  | _ => none
theorem decMk_b6_ok (b : Blk) (y6 : (List OB)) (h : decMk_b6 b = some y6) : b = .bx 20 126 130 [.int .i64, .int .i64, .bool] (y6) [] none := by
  unfold decMk_b6 at h
  split at h
  · obtain ⟨e0, h⟩ := ite_some0 h
    obtain ⟨e1, h⟩ := ite_some0 h
    obtain ⟨e2, h⟩ := ite_some0 h
    subst e0 e1 e2
    cases h
    rfl
  · cases h
def decMk : List V → List Blk → Option (PMk × AMk)
  | [v0, v1, v2, v3, v4, v5, v6], [b0, b1, b2, b3, b4, b5, b6] => (decMk_v0 v0).bind fun x0 => (decMk_v1 v1).bind fun x1 => (decMk_v2 v2).bind fun x2 => (decMk_v3 v3).bind fun x3 => (decMk_v4 v4).bind fun x4 => (decMk_v5 v5).bind fun x5 => (decMk_v6 v6).bind fun x6 => (decMk_b0 b0).bind fun y0 => (decMk_b1 b1).bind fun y1 => (decMk_b2 b2).bind fun y2 => (decMk_b3 b3).bind fun y3 => (decMk_b4 b4).bind fun y4 => (decMk_b5 b5).bind fun y5 => (decMk_b6 b6).bind fun y6 => some (⟨(x0), (y0), (x1), (x2), (y1.1), (y1.2.1), (y1.2.2.1), (y1.2.2.2.1), (y1.2.2.2.2.1), (y1.2.2.2.2.2.1), (y1.2.2.2.2.2.2.1), (y1.2.2.2.2.2.2.2.1), (y1.2.2.2.2.2.2.2.2.1), (y1.2.2.2.2.2.2.2.2.2.1), (y1.2.2.2.2.2.2.2.2.2.2.1), (y1.2.2.2.2.2.2.2.2.2.2.2.1), (y1.2.2.2.2.2.2.2.2.2.2.2.2.1), (y1.2.2.2.2.2.2.2.2.2.2.2.2.2.1), (y1.2.2.2.2.2.2.2.2.2.2.2.2.2.2.1), (y1.2.2.2.2.2.2.2.2.2.2.2.2.2.2.2.1), (y1.2.2.2.2.2.2.2.2.2.2.2.2.2.2.2.2.1), (y1.2.2.2.2.2.2.2.2.2.2.2.2.2.2.2.2.2.1), (y1.2.2.2.2.2.2.2.2.2.2.2.2.2.2.2.2.2.2.1), (y1.2.2.2.2.2.2.2.2.2.2.2.2.2.2.2.2.2.2.2)⟩, ⟨(y2.1), (y2.2), (y3.1), (y3.2.1), (y3.2.2.1), (y3.2.2.2.1), (y3.2.2.2.2), (y5), (y4.1), (y4.2.1), (y4.2.2.1), (y4.2.2.2.1), (y4.2.2.2.2), (y6), (x5), (x6)⟩)
  | _, _ => none
theorem decMk_ok (l : List V) (b : List Blk) (d : PMk × AMk) (h : decMk l b = some d) : l = vsMk d.1 d.2 ∧ b = bsMk d.1 d.2 := by
  unfold decMk at h
  split at h
  · obtain ⟨x0, hx0, h⟩ := Option.bind_eq_some_iff.1 h
    obtain ⟨x1, hx1, h⟩ := Option.bind_eq_some_iff.1 h
    obtain ⟨x2, hx2, h⟩ := Option.bind_eq_some_iff.1 h
    obtain ⟨x3, hx3, h⟩ := Option.bind_eq_some_iff.1 h
    obtain ⟨x4, hx4, h⟩ := Option.bind_eq_some_iff.1 h
    obtain ⟨x5, hx5, h⟩ := Option.bind_eq_some_iff.1 h
    obtain ⟨x6, hx6, h⟩ := Option.bind_eq_some_iff.1 h
    obtain ⟨y0, hy0, h⟩ := Option.bind_eq_some_iff.1 h
    obtain ⟨y1, hy1, h⟩ := Option.bind_eq_some_iff.1 h
    obtain ⟨y2, hy2, h⟩ := Option.bind_eq_some_iff.1 h
    obtain ⟨y3, hy3, h⟩ := Option.bind_eq_some_iff.1 h
    obtain ⟨y4, hy4, h⟩ := Option.bind_eq_some_iff.1 h
    obtain ⟨y5, hy5, h⟩ := Option.bind_eq_some_iff.1 h
    obtain ⟨y6, hy6, h⟩ := Option.bind_eq_some_iff.1 h
    have ex0 := decMk_v0_ok _ _ hx0
    have ex1 := decMk_v1_ok _ _ hx1
    have ex2 := decMk_v2_ok _ _ hx2
    have ex3 := decMk_v3_ok _ _ hx3
    have ex4 := decMk_v4_ok _ _ hx4
    have ex5 := decMk_v5_ok _ _ hx5
    have ex6 := decMk_v6_ok _ _ hx6
    have ey0 := decMk_b0_ok _ _ hy0
    have ey1 := decMk_b1_ok _ _ hy1
    have ey2 := decMk_b2_ok _ _ hy2
    have ey3 := decMk_b3_ok _ _ hy3
    have ey4 := decMk_b4_ok _ _ hy4
    have ey5 := decMk_b5_ok _ _ hy5
    have ey6 := decMk_b6_ok _ _ hy6
    cases h
    subst ex0 ex1 ex2 ex3 ex4 ex5 ex6 ey0 ey1 ey2 ey3 ey4 ey5 ey6
    exact ⟨rfl, rfl⟩
  · cases h
noncomputable def rgMk : Nat := (firstReg lpMk).getD 0
theorem rgMk_is : firstReg lpMk = some rgMk := by kernel_rfl
noncomputable def lpSa : Code := loopAt Try.prog 8 0
structure PSa where (x : Int) (y : Int)
structure ASa where (gm : Int) (om : Bool) (w1 : Int) (g1 : Int) (n1 : Nat) (nw1 : Int) (ov1 : Bool) (l1 : List OB) (w2 : Int) (g2 : Int) (n2 : Nat) (nw2 : Int) (ov2 : Bool) (l2 : List OB) (t : Int)
abbrev SSa : List (Nat × Src) := [(16, .same), (2000, .path 16 [0, 0]), (2001, .path 16 [0, 1]), (2002, .path 16 [0, 0, 2]), (2003, .path 16 [0, 1, 2])]
def vsSa (p : PSa) (a : ASa) : List V := [.ptr 16 0, iv p.x, iv p.y, iv a.t]
def bsSa (p : PSa) (a : ASa) : List Blk := [.cells 145 [.iface 142 (.agg [.ptr 2000 0, .ptr 2001 0]), iv a.gm, bv a.om], .cells 123 [iv a.w1, iv a.g1, .sub 2002 1 0 a.n1, iv a.nw1, bv a.ov1], .cells 123 [iv a.w2, iv a.g2, .sub 2003 1 0 a.n2, iv a.nw2, bv a.ov2], .bx 20 126 130 [.int .i64, .int .i64, .bool] a.l1 [] none, .bx 20 126 130 [.int .i64, .int .i64, .bool] a.l2 [] none]
noncomputable def FSa (p : PSa) (a : ASa) : St := mkSt [6,7,8,9] (keysR SSa) 2004 83 (vsSa p a) (bsSa p a)
noncomputable def rdSa (p : PSa) (a : ASa) : T (Ex × St) := T.anon (roundN MK noLoops lpSa [6,7,8,9] SSa 2000 2004 (mkSt [6,7,8,9] (keysR SSa) 2004 83 (vsSa p a) (bsSa p a)))
def decSa_v0 : V → Option (Unit)
  | .ptr 16 0 => some ()
  | _ => none
theorem decSa_v0_ok (b : V) (x0 : Unit) (h : decSa_v0 b = some x0) : b = .ptr 16 0 := by
  unfold decSa_v0 at h
  split at h
  · cases h
    rfl
  · cases h
def decSa_v1 : V → Option ((Int))
  | .s (.int .i64 x) => some (x)
  | _ => none
theorem decSa_v1_ok (b : V) (x1 : (Int)) (h : decSa_v1 b = some x1) : b = iv (x1) := by
  unfold decSa_v1 at h
  split at h
  · cases h
    rfl
  · cases h
def decSa_v2 : V → Option ((Int))
  | .s (.int .i64 y) => some (y)
  | _ => none
theorem decSa_v2_ok (b : V) (x2 : (Int)) (h : decSa_v2 b = some x2) : b = iv (x2) := by
  unfold decSa_v2 at h
  split at h
  · cases h
    rfl
  · cases h
def decSa_v3 : V → Option ((Int))
  | .s (.int .i64 t) => some (t)
  | _ => none
theorem decSa_v3_ok (b : V) (x3 : (Int)) (h : decSa_v3 b = some x3) : b = iv (x3) := by
  unfold decSa_v3 at h
  split at h
  · cases h
    rfl
  · cases h
def decSa_b0 : Blk → Option ((Int) × (Bool))
  | .cells tt0 [.iface tt1 (.agg [.ptr 2000 0, .ptr 2001 0]), .s (.int .i64 gm), .s (.bool om)] => if tt0 = 145 then if tt1 = 142 then some (gm, om) else none else none
  | _ => none
theorem decSa_b0_ok (b : Blk) (y0 : (Int) × (Bool)) (h : decSa_b0 b = some y0) : b = .cells 145 [.iface 142 (.agg [.ptr 2000 0, .ptr 2001 0]), iv (y0.1), bv (y0.2)] := by
  unfold decSa_b0 at h
  split at h
  · obtain ⟨e0, h⟩ := ite_some0 h
    obtain ⟨e1, h⟩ := ite_some0 h
    subst e0 e1
    cases h
    rfl
  · cases h
def decSa_b1 : Blk → Option ((Int) × (Int) × (Nat) × (Int) × (Bool))
  | .cells tt0 [.s (.int .i64 w1), .s (.int .i64 g1), .sub 2002 1 0 n1, .s (.int .i64 nw1), .s (.bool ov1)] => if tt0 = 123 then some (w1, g1, n1, nw1, ov1) else none
  | _ => none
theorem decSa_b1_ok (b : Blk) (y1 : (Int) × (Int) × (Nat) × (Int) × (Bool)) (h : decSa_b1 b = some y1) : b = .cells 123 [iv (y1.1), iv (y1.2.1), .sub 2002 1 0 (y1.2.2.1), iv (y1.2.2.2.1), bv (y1.2.2.2.2)] := by
  unfold decSa_b1 at h
  split at h
  · obtain ⟨e0, h⟩ := ite_some0 h
    subst e0
    cases h
    rfl
  · cases h
def decSa_b2 : Blk → Option ((Int) × (Int) × (Nat) × (Int) × (Bool))
  | .cells tt0 [.s (.int .i64 w2), .s (.int .i64 g2), .sub 2003 1 0 n2, .s (.int .i64 nw2), .s (.bool ov2)] => if tt0 = 123 then some (w2, g2, n2, nw2, ov2) else none
  | _ => none
theorem decSa_b2_ok (b : Blk) (y2 : (Int) × (Int) × (Nat) × (Int) × (Bool)) (h : decSa_b2 b = some y2) : b = .cells 123 [iv (y2.1), iv (y2.2.1), .sub 2003 1 0 (y2.2.2.1), iv (y2.2.2.2.1), bv (y2.2.2.2.2)] := by
  unfold decSa_b2 at h
  split at h
  · obtain ⟨e0, h⟩ := ite_some0 h
    subst e0
    cases h
    rfl
  · cases h
def decSa_b3 : Blk → Option ((List OB))
  | .bx tt0 tt1 tt2 [.int .i64, .int .i64, .bool] l1 [] none => if tt0 = 20 then if tt1 = 126 then if tt2 = 130 then some (l1) else none else none else none
  | _ => none
theorem decSa_b3_ok (b : Blk) (y3 : (List OB)) (h : decSa_b3 b = some y3) : b = .bx 20 126 130 [.int .i64, .int .i64, .bool] (y3) [] none := by
  unfold decSa_b3 at h
  split at h
  · obtain ⟨e0, h⟩ := ite_some0 h
    obtain ⟨e1, h⟩ := ite_some0 h
    obtain ⟨e2, h⟩ := ite_some0 h
    subst e0 e1 e2
    cases h
    rfl
  · cases h
def decSa_b4 : Blk → Option ((List OB))
  | .bx tt0 tt1 tt2 [.int .i64, .int .i64, .bool] l2 [] none => if tt0 = 20 then if tt1 = 126 then if tt2 = 130 then some (l2) else none else none else none
  | _ => none
theorem decSa_b4_ok (b : Blk) (y4 : (List OB)) (h : decSa_b4 b = some y4) : b = .bx 20 126 130 [.int .i64, .int .i64, .bool] (y4) [] none := by
  unfold decSa_b4 at h
  split at h
  · obtain ⟨e0, h⟩ := ite_some0 h
    obtain ⟨e1, h⟩ := ite_some0 h
    obtain ⟨e2, h⟩ := ite_some0 h
    subst e0 e1 e2
    cases h
    rfl
  · cases h
def decSa : List V → List Blk → Option (PSa × ASa)
  | [v0, v1, v2, v3], [b0, b1, b2, b3, b4] => (decSa_v0 v0).bind fun x0 => (decSa_v1 v1).bind fun x1 => (decSa_v2 v2).bind fun x2 => (decSa_v3 v3).bind fun x3 => (decSa_b0 b0).bind fun y0 => (decSa_b1 b1).bind fun y1 => (decSa_b2 b2).bind fun y2 => (decSa_b3 b3).bind fun y3 => (decSa_b4 b4).bind fun y4 => some (⟨(x1), (x2)⟩, ⟨(y0.1), (y0.2), (y1.1), (y1.2.1), (y1.2.2.1), (y1.2.2.2.1), (y1.2.2.2.2), (y3), (y2.1), (y2.2.1), (y2.2.2.1), (y2.2.2.2.1), (y2.2.2.2.2), (y4), (x3)⟩)
  | _, _ => none
theorem decSa_ok (l : List V) (b : List Blk) (d : PSa × ASa) (h : decSa l b = some d) : l = vsSa d.1 d.2 ∧ b = bsSa d.1 d.2 := by
  unfold decSa at h
  split at h
  · obtain ⟨x0, hx0, h⟩ := Option.bind_eq_some_iff.1 h
    obtain ⟨x1, hx1, h⟩ := Option.bind_eq_some_iff.1 h
    obtain ⟨x2, hx2, h⟩ := Option.bind_eq_some_iff.1 h
    obtain ⟨x3, hx3, h⟩ := Option.bind_eq_some_iff.1 h
    obtain ⟨y0, hy0, h⟩ := Option.bind_eq_some_iff.1 h
    obtain ⟨y1, hy1, h⟩ := Option.bind_eq_some_iff.1 h
    obtain ⟨y2, hy2, h⟩ := Option.bind_eq_some_iff.1 h
    obtain ⟨y3, hy3, h⟩ := Option.bind_eq_some_iff.1 h
    obtain ⟨y4, hy4, h⟩ := Option.bind_eq_some_iff.1 h
    have ex0 := decSa_v0_ok _ _ hx0
    have ex1 := decSa_v1_ok _ _ hx1
    have ex2 := decSa_v2_ok _ _ hx2
    have ex3 := decSa_v3_ok _ _ hx3
    have ey0 := decSa_b0_ok _ _ hy0
    have ey1 := decSa_b1_ok _ _ hy1
    have ey2 := decSa_b2_ok _ _ hy2
    have ey3 := decSa_b3_ok _ _ hy3
    have ey4 := decSa_b4_ok _ _ hy4
    cases h
    subst ex0 ex1 ex2 ex3 ey0 ey1 ey2 ey3 ey4
    exact ⟨rfl, rfl⟩
  · cases h
noncomputable def rgSa : Nat := (firstReg lpSa).getD 0
theorem rgSa_is : firstReg lpSa = some rgSa := by kernel_rfl
noncomputable def lpSb : Code := loopAt Try.prog 8 1
structure PSb where (x : Int) (y : Int)
structure ASb where (gm : Int) (om : Bool) (w1 : Int) (g1 : Int) (n1 : Nat) (nw1 : Int) (ov1 : Bool) (l1 : List OB) (w2 : Int) (g2 : Int) (n2 : Nat) (nw2 : Int) (ov2 : Bool) (l2 : List OB) (t : Int)
abbrev SSb : List (Nat × Src) := [(16, .same), (3000, .path 16 [0, 0]), (3001, .path 16 [0, 1]), (3002, .path 16 [0, 0, 2]), (3003, .path 16 [0, 1, 2])]
def vsSb (p : PSb) (a : ASb) : List V := [.ptr 16 0, iv p.x, iv p.y, iv a.t]
def bsSb (p : PSb) (a : ASb) : List Blk := [.cells 145 [.iface 142 (.agg [.ptr 3000 0, .ptr 3001 0]), iv a.gm, bv a.om], .cells 123 [iv a.w1, iv a.g1, .sub 3002 1 0 a.n1, iv a.nw1, bv a.ov1], .cells 123 [iv a.w2, iv a.g2, .sub 3003 1 0 a.n2, iv a.nw2, bv a.ov2], .bx 20 126 130 [.int .i64, .int .i64, .bool] a.l1 [] none, .bx 20 126 130 [.int .i64, .int .i64, .bool] a.l2 [] none]
noncomputable def FSb (p : PSb) (a : ASb) : St := mkSt [6,7,8,10] (keysR SSb) 3004 83 (vsSb p a) (bsSb p a)
noncomputable def rdSb (p : PSb) (a : ASb) : T (Ex × St) := T.anon (roundN MK noLoops lpSb [6,7,8,10] SSb 3000 3004 (mkSt [6,7,8,10] (keysR SSb) 3004 83 (vsSb p a) (bsSb p a)))
def decSb_v0 : V → Option (Unit)
  | .ptr 16 0 => some ()
  | _ => none
theorem decSb_v0_ok (b : V) (x0 : Unit) (h : decSb_v0 b = some x0) : b = .ptr 16 0 := by
  unfold decSb_v0 at h
  split at h
  · cases h
    rfl
  · cases h
def decSb_v1 : V → Option ((Int))
  | .s (.int .i64 x) => some (x)
  | _ => none
theorem decSb_v1_ok (b : V) (x1 : (Int)) (h : decSb_v1 b = some x1) : b = iv (x1) := by
  unfold decSb_v1 at h
  split at h
  · cases h
    rfl
  · cases h
def decSb_v2 : V → Option ((Int))
  | .s (.int .i64 y) => some (y)
  | _ => none
theorem decSb_v2_ok (b : V) (x2 : (Int)) (h : decSb_v2 b = some x2) : b = iv (x2) := by
  unfold decSb_v2 at h
  split at h
  · cases h
    rfl
  · cases h
def decSb_v3 : V → Option ((Int))
  | .s (.int .i64 t) => some (t)
  | _ => none
theorem decSb_v3_ok (b : V) (x3 : (Int)) (h : decSb_v3 b = some x3) : b = iv (x3) := by
  unfold decSb_v3 at h
  split at h
  · cases h
    rfl
  · cases h
def decSb_b0 : Blk → Option ((Int) × (Bool))
  | .cells tt0 [.iface tt1 (.agg [.ptr 3000 0, .ptr 3001 0]), .s (.int .i64 gm), .s (.bool om)] => if tt0 = 145 then if tt1 = 142 then some (gm, om) else none else none
  | _ => none
theorem decSb_b0_ok (b : Blk) (y0 : (Int) × (Bool)) (h : decSb_b0 b = some y0) : b = .cells 145 [.iface 142 (.agg [.ptr 3000 0, .ptr 3001 0]), iv (y0.1), bv (y0.2)] := by
  unfold decSb_b0 at h
  split at h
  · obtain ⟨e0, h⟩ := ite_some0 h
    obtain ⟨e1, h⟩ := ite_some0 h
    subst e0 e1
    cases h
    rfl
  · cases h
def decSb_b1 : Blk → Option ((Int) × (Int) × (Nat) × (Int) × (Bool))
  | .cells tt0 [.s (.int .i64 w1), .s (.int .i64 g1), .sub 3002 1 0 n1, .s (.int .i64 nw1), .s (.bool ov1)] => if tt0 = 123 then some (w1, g1, n1, nw1, ov1) else none
  | _ => none
theorem decSb_b1_ok (b : Blk) (y1 : (Int) × (Int) × (Nat) × (Int) × (Bool)) (h : decSb_b1 b = some y1) : b = .cells 123 [iv (y1.1), iv (y1.2.1), .sub 3002 1 0 (y1.2.2.1), iv (y1.2.2.2.1), bv (y1.2.2.2.2)] := by
  unfold decSb_b1 at h
  split at h
  · obtain ⟨e0, h⟩ := ite_some0 h
    subst e0
    cases h
    rfl
  · cases h
def decSb_b2 : Blk → Option ((Int) × (Int) × (Nat) × (Int) × (Bool))
  | .cells tt0 [.s (.int .i64 w2), .s (.int .i64 g2), .sub 3003 1 0 n2, .s (.int .i64 nw2), .s (.bool ov2)] => if tt0 = 123 then some (w2, g2, n2, nw2, ov2) else none
  | _ => none
theorem decSb_b2_ok (b : Blk) (y2 : (Int) × (Int) × (Nat) × (Int) × (Bool)) (h : decSb_b2 b = some y2) : b = .cells 123 [iv (y2.1), iv (y2.2.1), .sub 3003 1 0 (y2.2.2.1), iv (y2.2.2.2.1), bv (y2.2.2.2.2)] := by
  unfold decSb_b2 at h
  split at h
  · obtain ⟨e0, h⟩ := ite_some0 h
    subst e0
    cases h
    rfl
  · cases h
def decSb_b3 : Blk → Option ((List OB))
  | .bx tt0 tt1 tt2 [.int .i64, .int .i64, .bool] l1 [] none => if tt0 = 20 then if tt1 = 126 then if tt2 = 130 then some (l1) else none else none else none
  | _ => none
theorem decSb_b3_ok (b : Blk) (y3 : (List OB)) (h : decSb_b3 b = some y3) : b = .bx 20 126 130 [.int .i64, .int .i64, .bool] (y3) [] none := by
  unfold decSb_b3 at h
  split at h
  · obtain ⟨e0, h⟩ := ite_some0 h
    obtain ⟨e1, h⟩ := ite_some0 h
    obtain ⟨e2, h⟩ := ite_some0 h
    subst e0 e1 e2
    cases h
    rfl
  · cases h
def decSb_b4 : Blk → Option ((List OB))
  | .bx tt0 tt1 tt2 [.int .i64, .int .i64, .bool] l2 [] none => if tt0 = 20 then if tt1 = 126 then if tt2 = 130 then some (l2) else none else none else none
  | _ => none
theorem decSb_b4_ok (b : Blk) (y4 : (List OB)) (h : decSb_b4 b = some y4) : b = .bx 20 126 130 [.int .i64, .int .i64, .bool] (y4) [] none := by
  unfold decSb_b4 at h
  split at h
  · obtain ⟨e0, h⟩ := ite_some0 h
    obtain ⟨e1, h⟩ := ite_some0 h
    obtain ⟨e2, h⟩ := ite_some0 h
    subst e0 e1 e2
    cases h
    rfl
  · cases h
def decSb : List V → List Blk → Option (PSb × ASb)
  | [v0, v1, v2, v3], [b0, b1, b2, b3, b4] => (decSb_v0 v0).bind fun x0 => (decSb_v1 v1).bind fun x1 => (decSb_v2 v2).bind fun x2 => (decSb_v3 v3).bind fun x3 => (decSb_b0 b0).bind fun y0 => (decSb_b1 b1).bind fun y1 => (decSb_b2 b2).bind fun y2 => (decSb_b3 b3).bind fun y3 => (decSb_b4 b4).bind fun y4 => some (⟨(x1), (x2)⟩, ⟨(y0.1), (y0.2), (y1.1), (y1.2.1), (y1.2.2.1), (y1.2.2.2.1), (y1.2.2.2.2), (y3), (y2.1), (y2.2.1), (y2.2.2.1), (y2.2.2.2.1), (y2.2.2.2.2), (y4), (x3)⟩)
  | _, _ => none
theorem decSb_ok (l : List V) (b : List Blk) (d : PSb × ASb) (h : decSb l b = some d) : l = vsSb d.1 d.2 ∧ b = bsSb d.1 d.2 := by
  unfold decSb at h
  split at h
  · obtain ⟨x0, hx0, h⟩ := Option.bind_eq_some_iff.1 h
    obtain ⟨x1, hx1, h⟩ := Option.bind_eq_some_iff.1 h
    obtain ⟨x2, hx2, h⟩ := Option.bind_eq_some_iff.1 h
    obtain ⟨x3, hx3, h⟩ := Option.bind_eq_some_iff.1 h
    obtain ⟨y0, hy0, h⟩ := Option.bind_eq_some_iff.1 h
    obtain ⟨y1, hy1, h⟩ := Option.bind_eq_some_iff.1 h
    obtain ⟨y2, hy2, h⟩ := Option.bind_eq_some_iff.1 h
    obtain ⟨y3, hy3, h⟩ := Option.bind_eq_some_iff.1 h
    obtain ⟨y4, hy4, h⟩ := Option.bind_eq_some_iff.1 h
    have ex0 := decSb_v0_ok _ _ hx0
    have ex1 := decSb_v1_ok _ _ hx1
    have ex2 := decSb_v2_ok _ _ hx2
    have ex3 := decSb_v3_ok _ _ hx3
    have ey0 := decSb_b0_ok _ _ hy0
    have ey1 := decSb_b1_ok _ _ hy1
    have ey2 := decSb_b2_ok _ _ hy2
    have ey3 := decSb_b3_ok _ _ hy3
    have ey4 := decSb_b4_ok _ _ hy4
    cases h
    subst ex0 ex1 ex2 ex3 ey0 ey1 ey2 ey3 ey4
    exact ⟨rfl, rfl⟩
  · cases h
noncomputable def rgSb : Nat := (firstReg lpSb).getD 0
theorem rgSb_is : firstReg lpSb = some rgSb := by kernel_rfl
structure M2S where
  gm : Int
  om : Bool
  s : RS
  q : RS
end Go.Proofs.Ytebibmioiigplaa.Met

/- Layer 11: rings in which one value was put at each tick. -/
namespace Go.Proofs.Ytebibmioiigplaa.Met
open Go.Eng Go.RowKit Mil Rin
set_option linter.unusedVariables false
set_option linter.unusedSimpArgs false
abbrev Rec := Rin.Rec
/-- what was put at the ticks 0 to k less one -/
def recs (f : Nat → Int) (k : Nat) : List Rec := (List.range k).map fun (i : Nat) => ((i : Int), f i)
theorem recs_next (f : Nat → Int) (k : Nat) : recs f (k + 1) = recs f k ++ [((k : Int), f k)] := by
  unfold recs; rw [List.range_succ, List.map_append]; rfl
theorem recs_len (f : Nat → Int) (k : Nat) : (recs f k).length = k := by unfold recs; simp
theorem recs_mem {f : Nat → Int} {k : Nat} {p : Rec} (h : p ∈ recs f k) : ∃ i, i < k ∧ p = ((i : Int), f i) := by
  unfold recs at h
  obtain ⟨i, hi, rfl⟩ := List.mem_map.1 h
  exact ⟨i, List.mem_range.1 hi, rfl⟩
/-- those from lo on -/
def fromR (lo : Int) (rs : List Rec) : List Rec := rs.filter fun p => decide (lo ≤ p.1)
theorem from_next (f : Nat → Int) (lo : Int) (k : Nat) : fromR lo (recs f (k + 1)) = fromR lo (recs f k) ++ (if lo ≤ (k : Int) then [((k : Int), f k)] else []) := by
  unfold fromR
  rw [recs_next, List.filter_append]
  congr 1
  by_cases h : lo ≤ (k : Int)
  · rw [if_pos h, List.filter_cons, if_pos (by exact decide_eq_true h)]; rfl
  · rw [if_neg h, List.filter_cons, if_neg (by rw [decide_eq_false h]; simp)]; rfl
theorem from_none (f : Nat → Int) (lo : Int) : ∀ k : Nat, (k : Int) ≤ lo → fromR lo (recs f k) = []
  | 0, _ => rfl
  | k + 1, h => by rw [from_next, from_none f lo k (by omega), if_neg (by omega)]; rfl
theorem from_len (f : Nat → Int) {lo : Int} (h0 : 0 ≤ lo) : ∀ k : Nat, lo ≤ (k : Int) → ((fromR lo (recs f k)).length : Int) = k - lo
  | 0, h => by have : lo = 0 := by omega
               subst this; rfl
  | k + 1, h => by
    rw [from_next]
    by_cases q : lo ≤ (k : Int)
    · rw [if_pos q, List.length_append]
      have := from_len f h0 k q
      simp only [List.length_cons, List.length_nil]
      omega
    · rw [if_neg q, List.append_nil, from_none f lo k (by omega)]
      simp only [List.length_nil]; omega
theorem sv_le {B : Int} : ∀ {rs : List Rec}, (∀ p ∈ rs, p.2 ≤ B) → Rin.sv rs ≤ rs.length * B
  | [], _ => by simp [Rin.sv]
  | p :: r, h => by
    have h1 := sv_le (rs := r) fun q hq => h q (List.mem_cons_of_mem _ hq)
    have h2 := h p List.mem_cons_self
    rw [sv_cons, List.length_cons]
    have : ((r.length + 1 : Nat) : Int) * B = r.length * B + B := by rw [Int.natCast_add, Int.add_mul]; omega
    omega
/-- a window over such records -/
theorem wn_from (f : Nat → Int) (lo hi : Int) (k : Nat) (h : (k : Int) ≤ hi) : wn lo hi (recs f k) = fromR lo (recs f k) := by
  unfold wn fromR
  apply List.filter_congr
  intro p hp
  obtain ⟨i, hi', rfl⟩ := recs_mem hp
  rw [decide_eq_true (show (i : Int) < hi by omega), Bool.and_true]
/-- a ring of the width w at grain 1 that holds these -/
structure Tick (s : RS) (w : Int) (f : Nat → Int) (k : Nat) : Prop where
  h : HoldsR s (recs f k)
  w : s.w = w
  g : s.g = 1
  nw : s.nw = (k : Int) - 1
  ov : s.ov = false
theorem Tick.n {s : RS} {w : Int} {f : Nat → Int} {k : Nat} (h : Tick s w f k) : (s.n : Int) = w ∧ 1 ≤ w ∧ w ≤ 600 := by
  have h1 := h.h.sn
  have h2 := h.h.g2
  have h3 := h.h.w1
  rw [h.g, h.w] at *
  rw [h1]
  exact ⟨nN_one h2, h2, h3⟩
theorem Tick.new {w : Int} (h : 1 ≤ w) (h2 : w ≤ 600) (f : Nat → Int) : Tick (RS.new w 1) w f 0 := ⟨HoldsR.new (by omega) h h2, rfl, rfl, rfl, rfl⟩
theorem Tick.put {s : RS} {w : Int} {f : Nat → Int} {k : Nat} (h : Tick s w f k) (hk : k < 100000) {v : Int} (hv : f k = v) (v0 : 0 ≤ v) (v1 : v ≤ 9223372036854775807) : allSay (putC s (k : Int) v) ∧ Tick (s.put (k : Int) v) w f (k + 1) := by
  obtain ⟨n1, n2, n3⟩ := h.n
  obtain ⟨c, hp⟩ := h.h.put (t := (k : Int)) (by omega) (by omega) v0 v1 (by rw [recs_len]; omega)
  have e : Int.tdiv (k : Int) s.g = (k : Int) := by rw [h.g, Int.tdiv_one]
  have em : mxR s.nw (k : Int) = (k : Int) := mxR_r (by rw [h.nw]; omega)
  rw [e, putRs_in (by rw [em]; omega), ← hv, ← recs_next] at hp
  rw [hv] at hp
  refine ⟨c, hp, h.w, h.g, ?_, h.ov⟩
  show mxR s.nw (Int.tdiv (k : Int) s.g) = _
  rw [e, em]; omega
/-- where its window begins at t -/
def loT (w t : Int) : Int := if 0 > t - w + 1 then 0 else t - w + 1
theorem Tick.mean {s : RS} {w : Int} {f : Nat → Int} {k : Nat} (h : Tick s w f k) (hk : k < 100000) (hf : ∀ i, 0 ≤ f i ∧ f i ≤ 1000000000) {t : Int} (t0 : 0 ≤ t) (t1 : (k : Int) - 1 ≤ t) (t2 : t ≤ 100000) :
    allSay (sumC s t) ∧ Tick (s.sum t) w f k ∧ (s.sumA t).s = Rin.sv (fromR (loT w t) (recs f k)) ∧ (s.sumA t).c = ((fromR (loT w t) (recs f k)).length : Int) := by
  obtain ⟨n1, n2, n3⟩ := h.n
  obtain ⟨c, hp, hs⟩ := h.h.sum t0 (by omega)
  obtain ⟨s1, s2, s3⟩ := smV_s hs
  have e : Int.tdiv t s.g = t := by rw [h.g, Int.tdiv_one]
  have el : frR s.n s.nw t = loT w t := by
    unfold frR loT
    rw [mxR_l (show s.nw ≤ t by rw [h.nw]; omega), n1]
  rw [e, el, wn_from f _ _ k (by omega)] at s1 s2 s3
  have hm : ∀ p ∈ fromR (loT w t) (recs f k), 0 ≤ p.2 ∧ p.2 ≤ 1000000000 := by
    intro p hp
    obtain ⟨i, _, rfl⟩ := recs_mem (List.mem_filter.1 hp).1
    exact hf i
  have hl : (fromR (loT w t) (recs f k)).length ≤ k := by
    have := List.length_filter_le (fun p : Rec => decide (loT w t ≤ p.1)) (recs f k)
    rw [recs_len] at this; exact this
  have b0 := sv_nonneg fun p hp => (hm p hp).1
  have b1 := sv_le fun p hp => (hm p hp).2
  have b2 : Rin.sv (fromR (loT w t) (recs f k)) ≤ 100000 * 1000000000 := by
    have : ((fromR (loT w t) (recs f k)).length : Int) * 1000000000 ≤ 100000 * 1000000000 := Int.mul_le_mul_of_nonneg_right (by omega) (by omega)
    omega
  refine ⟨c, ⟨hp, h.w, h.g, h.nw, ?_⟩, ?_, s2⟩
  · show (bif s.ov then true else (s.sumA t).k) = false
    rw [h.ov, s3]; exact decide_eq_false (by unfold tpI; omega)
  · rw [s1, cut_small b0 (by omega)]
/-! ### x for a hundred ticks, then y -/
def stepF (x y : Int) (i : Nat) : Int := if i < 100 then x else y
theorem stepF_sv (x y : Int) {lo : Int} (h0 : 0 ≤ lo) : ∀ k : Nat, lo ≤ (k : Int) → Rin.sv (fromR lo (recs (stepF x y) k)) = (min (k : Int) 100 - min lo 100) * x + (max (k : Int) 100 - max lo 100) * y
  | 0, h => by
    have : lo = 0 := by omega
    subst this
    show (0 : Int) = _
    simp
  | k + 1, h => by
    rw [from_next]
    by_cases q : lo ≤ (k : Int)
    · rw [if_pos q, sv_append, stepF_sv x y h0 k q, sv_cons, sv_nil, Int.add_zero]
      by_cases r : k < 100
      · rw [show stepF x y k = x from if_pos r, show min ((k + 1 : Nat) : Int) 100 = min (k : Int) 100 + 1 by omega, show max ((k + 1 : Nat) : Int) 100 = max (k : Int) 100 by omega, show min (k : Int) 100 + 1 - min lo 100 = (min (k : Int) 100 - min lo 100) + 1 by omega, Int.add_mul]
        omega
      · rw [show stepF x y k = y from if_neg r, show min ((k + 1 : Nat) : Int) 100 = min (k : Int) 100 by omega, show max ((k + 1 : Nat) : Int) 100 = max (k : Int) 100 + 1 by omega, show max (k : Int) 100 + 1 - max lo 100 = (max (k : Int) 100 - max lo 100) + 1 by omega, Int.add_mul]
        omega
    · have e : lo = ((k + 1 : Nat) : Int) := by omega
      rw [if_neg q, List.append_nil, from_none _ lo k (by omega), e, Int.sub_self, Int.sub_self]
      simp [Rin.sv]
theorem stepF_mean (x y w : Int) (w1 : 1 ≤ w) (w2 : w ≤ 100) (k : Nat) (h : 100 ≤ k) (h2 : k < 200) : Rin.sv (fromR (loT w (k : Int)) (recs (stepF x y) (k + 1))) = min ((k : Int) - 99) w * y + (w - min ((k : Int) - 99) w) * x ∧ ((fromR (loT w (k : Int)) (recs (stepF x y) (k + 1))).length : Int) = w := by
  have hl : loT w (k : Int) = (k : Int) - w + 1 := by unfold loT; rw [if_neg (by omega)]
  rw [hl]
  refine ⟨?_, ?_⟩
  · rw [stepF_sv x y (by omega) (k + 1) (by omega)]
    by_cases q : (k : Int) - w + 1 ≤ 100
    · rw [show min ((k : Int) - 99) w = (k : Int) - 99 by omega, show min ((k + 1 : Nat) : Int) 100 - min ((k : Int) - w + 1) 100 = w - ((k : Int) - 99) by omega, show max ((k + 1 : Nat) : Int) 100 - max ((k : Int) - w + 1) 100 = (k : Int) - 99 by omega]
      omega
    · rw [show min ((k : Int) - 99) w = w by omega, show min ((k + 1 : Nat) : Int) 100 - min ((k : Int) - w + 1) 100 = 0 by omega, show max ((k + 1 : Nat) : Int) 100 - max ((k : Int) - w + 1) 100 = w by omega, Int.sub_self]
      omega
  · rw [from_len _ (by omega) (k + 1) (by omega)]; omega
end Go.Proofs.Ytebibmioiigplaa.Met

/- Layer 11: MetricSudden. -/
namespace Go.Proofs.Ytebibmioiigplaa.Met
open Go.Eng Go.RowKit Mil Rin
set_option linter.unusedVariables false
set_option linter.unusedSimpArgs false
set_option maxRecDepth 100000
def stSa (m : M2S) (t : Int) : ASa := ⟨m.gm, m.om, m.s.w, m.s.g, m.s.n, m.s.nw, m.s.ov, m.s.l, m.q.w, m.q.g, m.q.n, m.q.nw, m.q.ov, m.q.l, t⟩
def stSb (m : M2S) (t : Int) : ASb := ⟨m.gm, m.om, m.s.w, m.s.g, m.s.n, m.s.nw, m.s.ov, m.s.l, m.q.w, m.q.g, m.q.n, m.q.nw, m.q.ov, m.q.l, t⟩
noncomputable def M2S.put (m : M2S) (t v : Int) : M2S := ⟨m.gm, m.om, m.s.put t v, m.q.put t v⟩
noncomputable def M2S.mean (m : M2S) (t : Int) : M2S := ⟨m.gm, m.om, m.s.sum t, m.q.sum t⟩
noncomputable def puC (m : M2S) (t v : Int) : List (Bool × Bool) := putC m.s t v ++ ([((0 : Int) != 0, false)] ++ (putC m.q t v ++ [((0 : Int) != 0, false)]))
noncomputable def suC (m : M2S) (t : Int) : List (Bool × Bool) := sumC m.s t ++ sumC m.q t
def chP : List Bool := [true, false, true] ++ ([false] ++ ([true, false, true] ++ [false]))
theorem waySa (p : PSa) (m : M2S) (t : Int) : T.path (true :: chP) (rdSa p (stSa m t)) = some ((decide (t < 100), true) :: puC m t p.x, (.normal, FSa p (stSa (m.put t p.x) (wI (t + 1))))) := by kernel_rfl
theorem waySax (p : PSa) (a : ASa) : T.path [false] (rdSa p a) = some ([(decide (a.t < 100), false)], (.exit 0, FSa p a)) := by kernel_rfl
def mnI (t w : Int) : Int := if w < wI (t - 99) then w else wI (t - 99)
def wantM (t w x y : Int) : Int := wI (Int.tdiv (wI (wI (mnI t w * y) + wI (wI (w - mnI t w) * x))) w)
noncomputable def cSb (p : PSb) (m : M2S) (t : Int) : Bool := m.s.mean t != wantM t 60 p.x p.y
noncomputable def dSb (p : PSb) (m : M2S) (t : Int) : Bool := bif cSb p m t then true else m.q.mean t != wantM t 6 p.x p.y
theorem waySb (p : PSb) (m : M2S) (t : Int) : T.path (true :: (chP ++ ([true, false, true] ++ ([true, false, true] ++ [false, false, false, false])))) (rdSb p (stSb m t)) =
    some ((decide (t < 200), true) :: (puC m t p.y ++ (suC (m.put t p.y) t ++ [((60 : Int) == 0, false), (cSb p (m.put t p.y) t, false), ((6 : Int) == 0, false), (dSb p (m.put t p.y) t, false)])), (.normal, FSb p (stSb ((m.put t p.y).mean t) (wI (t + 1))))) := by kernel_rfl
theorem waySbx (p : PSb) (a : ASb) : T.path [false] (rdSb p a) = some ([(decide (a.t < 200), false)], (.exit 2, FSb p a)) := by kernel_rfl
/-- both rings -/
structure TickM (m : M2S) (f : Nat → Int) (k : Nat) : Prop where
  s : Tick m.s 60 f k
  q : Tick m.q 6 f k
theorem TickM.put {m : M2S} {f : Nat → Int} {k : Nat} (h : TickM m f k) (hk : k < 100000) {v : Int} (hv : f k = v) (v0 : 0 ≤ v) (v1 : v ≤ 9223372036854775807) : allSay (puC m (k : Int) v) ∧ TickM (m.put (k : Int) v) f (k + 1) := by
  obtain ⟨a1, a2⟩ := h.s.put hk hv v0 v1
  obtain ⟨b1, b2⟩ := h.q.put hk hv v0 v1
  exact ⟨allSay_append a1 (allSay_append ⟨rfl, trivial⟩ (allSay_append b1 ⟨rfl, trivial⟩)), ⟨a2, b2⟩⟩
def mOfA (a : ASa) : M2S := ⟨a.gm, a.om, ⟨a.w1, a.g1, a.n1, a.nw1, a.ov1, a.l1⟩, ⟨a.w2, a.g2, a.n2, a.nw2, a.ov2, a.l2⟩⟩
def mOfB (a : ASb) : M2S := ⟨a.gm, a.om, ⟨a.w1, a.g1, a.n1, a.nw1, a.ov1, a.l1⟩, ⟨a.w2, a.g2, a.n2, a.nw2, a.ov2, a.l2⟩⟩
structure okSa (p : PSa) (a : ASa) : Prop where
  x : 0 ≤ p.x ∧ p.x < 1000000
  y : 0 ≤ p.y ∧ p.y < 1000000
  t0 : 0 ≤ a.t
  t1 : a.t ≤ 100
  m : TickM (mOfA a) (stepF p.x p.y) a.t.toNat
def goSa (p : PSa) (a : ASa) : Bool := decide (a.t < 100)
def muSa (p : PSa) (a : ASa) : Nat := (100 - a.t).toNat
theorem stepSa (p : PSa) (a : ASa) (h : okSa p a) (hg : goSa p a = true) : ∃ b, stepC okSa rdSa FSa muSa p a b := by
  obtain ⟨hx, hy, t0, t1, hm⟩ := h
  have hi : a.t < 100 := of_decide_eq_true hg
  have hw : wI (a.t + 1) = a.t + 1 := wrap64_in (by omega) (by omega)
  have et : ((a.t.toNat : Nat) : Int) = a.t := by omega
  obtain ⟨c, hm2⟩ := hm.put (v := p.x) (by omega) (if_pos (by omega)) hx.1 (by omega)
  rw [et] at c hm2
  refine ⟨_, T.path_eval (waySa p (mOfA a) a.t) ⟨hg, c⟩, ⟨hx, hy, ?_, ?_, ?_⟩, ?_⟩
  · show 0 ≤ wI (a.t + 1); rw [hw]; omega
  · show wI (a.t + 1) ≤ 100; rw [hw]; omega
  · show TickM ((mOfA a).put a.t p.x) (stepF p.x p.y) (wI (a.t + 1)).toNat
    rw [hw, show (a.t + 1).toNat = a.t.toNat + 1 by omega]; exact hm2
  · show (100 - wI (a.t + 1)).toNat < (100 - a.t).toNat; rw [hw]; omega
theorem exSa (p : PSa) (a : ASa) (h : okSa p a) (hg : goSa p a = false) : (rdSa p a).eval = some (.exit 0, FSa p a) := T.path_eval (waySax p a) ⟨hg, trivial⟩
noncomputable def famSa : LSpec := famC [6,7,8,9] SSa 2000 2004 83 decSa okSa goSa rdSa FSa muSa (.exit 0)
theorem lpSa_ok : LoopOk MK lpSa famSa := famC_ok (vs := vsSa) (bs := bsSa) MK_ok mixed (noLoops_ok _) decSa_ok (by simp) (fun _ _ => rfl) (fun _ _ => rfl) stepSa exSa
structure okSb (p : PSb) (a : ASb) : Prop where
  x : 0 ≤ p.x ∧ p.x < 1000000
  y : 0 ≤ p.y ∧ p.y < 1000000
  t0 : 100 ≤ a.t
  t1 : a.t ≤ 200
  m : TickM (mOfB a) (stepF p.x p.y) a.t.toNat
def goSb (p : PSb) (a : ASb) : Bool := decide (a.t < 200)
def muSb (p : PSb) (a : ASb) : Nat := (200 - a.t).toNat
theorem stepF_bd {x y : Int} (hx : 0 ≤ x ∧ x < 1000000) (hy : 0 ≤ y ∧ y < 1000000) (i : Nat) : 0 ≤ stepF x y i ∧ stepF x y i ≤ 1000000000 := by
  unfold stepF; split <;> omega
theorem mean_want {s : RS} {w x y : Int} {k : Nat} (w1 : 1 ≤ w) (w2 : w ≤ 100) (hx : 0 ≤ x ∧ x < 1000000) (hy : 0 ≤ y ∧ y < 1000000) (h : 100 ≤ k) (h2 : k < 200) (h3 : (s.sumA (k : Int)).s = Rin.sv (fromR (loT w (k : Int)) (recs (stepF x y) (k + 1)))) (h4 : (s.sumA (k : Int)).c = ((fromR (loT w (k : Int)) (recs (stepF x y) (k + 1))).length : Int)) : s.mean (k : Int) = wantM (k : Int) w x y := by
  obtain ⟨e1, e2⟩ := stepF_mean x y w w1 w2 k h h2
  have en : mnI (k : Int) w = min ((k : Int) - 99) w := by
    unfold mnI
    rw [show wI ((k : Int) - 99) = (k : Int) - 99 from wrap64_in (by omega) (by omega)]
    split <;> omega
  unfold RS.mean wantM
  rw [h3, h4, e1, e2, en]
  generalize hn : min ((k : Int) - 99) w = n
  have n0 : 0 ≤ n ∧ n ≤ w := by omega
  have a1 : 0 ≤ n * y := Int.mul_nonneg (by omega) (by omega)
  have a2 : n * y ≤ 100 * 1000000 := Int.mul_le_mul (by omega) (by omega) (by omega) (by omega)
  have b1 : 0 ≤ (w - n) * x := Int.mul_nonneg (by omega) (by omega)
  have b2 : (w - n) * x ≤ 100 * 1000000 := Int.mul_le_mul (by omega) (by omega) (by omega) (by omega)
  have q1 : wI (n * y) = n * y := wrap64_in (by omega) (by omega)
  have q2 : wI (w - n) = w - n := wrap64_in (by omega) (by omega)
  have q3 : wI ((w - n) * x) = (w - n) * x := wrap64_in (by omega) (by omega)
  have q4 : wI (n * y + (w - n) * x) = n * y + (w - n) * x := wrap64_in (by omega) (by omega)
  rw [q1, q2, q3, q4]
  unfold mnV
  rw [show (w == 0) = false by rw [beq_eq_false_iff_ne]; omega]; rfl
theorem neM (z : Int) : (z != z) = false := by simp
theorem stepSb (p : PSb) (a : ASb) (h : okSb p a) (hg : goSb p a = true) : ∃ b, stepC okSb rdSb FSb muSb p a b := by
  obtain ⟨hx, hy, t0, t1, hm⟩ := h
  have hi : a.t < 200 := of_decide_eq_true hg
  have hw : wI (a.t + 1) = a.t + 1 := wrap64_in (by omega) (by omega)
  have et : ((a.t.toNat : Nat) : Int) = a.t := by omega
  obtain ⟨c, hm2⟩ := hm.put (v := p.y) (by omega) (if_neg (by omega)) hy.1 (by omega)
  have bd := stepF_bd hx hy
  obtain ⟨a1, a2, a3, a4⟩ := hm2.s.mean (by omega) bd (t := (a.t.toNat : Int)) (by omega) (by omega) (by omega)
  obtain ⟨b1, b2, b3, b4⟩ := hm2.q.mean (by omega) bd (t := (a.t.toNat : Int)) (by omega) (by omega) (by omega)
  have e1 := mean_want (by omega) (by omega) hx hy (by omega) (by omega) a3 a4
  have e2 := mean_want (by omega) (by omega) hx hy (by omega) (by omega) b3 b4
  rw [et] at c a1 a2 b1 b2 e1 e2
  have c1 : cSb p ((mOfB a).put a.t p.y) a.t = false := by unfold cSb; rw [e1]; exact neM _
  have c2 : dSb p ((mOfB a).put a.t p.y) a.t = false := by unfold dSb; rw [c1, e2]; exact neM _
  refine ⟨_, T.path_eval (waySb p (mOfB a) a.t) ⟨hg, allSay_append c (allSay_append (allSay_append a1 b1) ⟨by kernel_rfl, c1, by kernel_rfl, c2, trivial⟩)⟩, ⟨hx, hy, ?_, ?_, ?_⟩, ?_⟩
  · show 100 ≤ wI (a.t + 1); rw [hw]; omega
  · show wI (a.t + 1) ≤ 200; rw [hw]; omega
  · show TickM (((mOfB a).put a.t p.y).mean a.t) (stepF p.x p.y) (wI (a.t + 1)).toNat
    rw [hw, show (a.t + 1).toNat = a.t.toNat + 1 by omega]; exact ⟨a2, b2⟩
  · show (200 - wI (a.t + 1)).toNat < (200 - a.t).toNat; rw [hw]; omega
theorem exSb (p : PSb) (a : ASb) (h : okSb p a) (hg : goSb p a = false) : (rdSb p a).eval = some (.exit 2, FSb p a) := T.path_eval (waySbx p a) ⟨hg, trivial⟩
noncomputable def famSb : LSpec := famC [6,7,8,10] SSb 3000 3004 83 decSb okSb goSb rdSb FSb muSb (.exit 2)
theorem lpSb_ok : LoopOk MK lpSb famSb := famC_ok (vs := vsSb) (bs := bsSb) MK_ok mixed (noLoops_ok _) decSb_ok (by simp) (fun _ _ => rfl) (fun _ _ => rfl) stepSb exSb
noncomputable def sudR (a b : Int) : T V := execS MK (byReg [(rgSa, famSa), (rgSb, famSb)]) 8 [Eng.iv a, Eng.iv b]
def m0S : M2S := ⟨Conf.dflt.grain, false, RS.new Conf.dflt.stable Conf.dflt.grain, RS.new Conf.dflt.panic Conf.dflt.grain⟩
noncomputable def eSa (x y : Int) : ASa := endW (nxtC okSa goSa rdSa FSa muSa ⟨x, y⟩) (stSa m0S 0)
theorem sud_w (a b x y : Int) (hx : wI (Int.tmod (wU a) 1000000) = x) (hy : wI (Int.tmod (wU b) 1000000) = y) : T.path [false, false, false, false, false, true, true] (T.anon (sudR a b)) = some ([(!Conf.mayB Conf.dflt, false), (badN Conf.dflt.stable Conf.dflt.grain, false), (badN Conf.dflt.panic Conf.dflt.grain, false), ((1000000 : Int) == 0, false), ((1000000 : Int) == 0, false),
   (invC okSa ⟨x, y⟩ (stSa m0S 0), true), (invC okSb ⟨x, y⟩ (stSb (mOfA (eSa x y)) 100), true)], .tt) := by subst hx; subst hy; kernel_rfl
theorem dfl60 : Conf.dflt.stable = 60 := rfl
theorem dfl6 : Conf.dflt.panic = 6 := rfl
theorem dfl1 : Conf.dflt.grain = 1 := rfl
theorem sud_run (a b : Int) : (sudR a b).eval = some .tt := by
  rw [← T.eval_anon (t := sudR a b)]
  have hx : 0 ≤ wI (Int.tmod (wU a) 1000000) ∧ wI (Int.tmod (wU a) 1000000) < 1000000 := modI a (by omega) (by omega)
  have hy : 0 ≤ wI (Int.tmod (wU b) 1000000) ∧ wI (Int.tmod (wU b) 1000000) < 1000000 := modI b (by omega) (by omega)
  have way := sud_w a b _ _ rfl rfl
  revert hx hy way
  generalize wI (Int.tmod (wU a) 1000000) = x
  generalize wI (Int.tmod (wU b) 1000000) = y
  intro hx hy way
  have tm : TickM m0S (stepF x y) 0 := ⟨Tick.new (w := 60) (by omega) (by omega) _, Tick.new (w := 6) (by omega) (by omega) _⟩
  have a0 : okSa ⟨x, y⟩ (stSa m0S 0) := ⟨hx, hy, Int.le_refl _, by show (0 : Int) ≤ 100; omega, tm⟩
  obtain ⟨k1, k2⟩ := endC stepSa a0
  have k1 : okSa ⟨x, y⟩ (eSa x y) := k1
  have k2 : ¬ (eSa x y).t < 100 := of_decide_eq_false k2
  have k3 := k1.t1
  have et : (eSa x y).t.toNat = 100 := by omega
  have km := k1.m
  rw [et] at km
  have b0 : okSb ⟨x, y⟩ (stSb (mOfA (eSa x y)) 100) := ⟨hx, hy, Int.le_refl _, by show (100 : Int) ≤ 200; omega, km⟩
  have mz : (!Conf.mayB Conf.dflt) = false := by kernel_rfl
  have n1 : badN Conf.dflt.stable Conf.dflt.grain = false := by kernel_rfl
  have n2 : badN Conf.dflt.panic Conf.dflt.grain = false := by kernel_rfl
  exact T.path_eval way ⟨mz, n1, n2, by kernel_rfl, by kernel_rfl, invC_is a0, invC_is b0, trivial⟩
theorem sud_walk (a : Int) (_ : (Lit.int .i64 a).wf = true) (b : Int) (_ : (Lit.int .i64 b).wf = true) (w : World) :
    Calls Try.prog 8 #[.int .i64 a, .int .i64 b] w fun e w' => e = .returned (.bool true) ∧ Below w.heap.size w w' :=
  law_yes (args := [Eng.iv a, Eng.iv b]) (execS_loops (Λ := byReg [(rgSa, famSa), (rgSb, famSb)]) MK_ok Rin.mixed Try.func8 (by kernel_rfl) (by kernel_rfl) (two_lp (c := lpSa) (c' := lpSb) (by kernel_rfl) rgSa_is rgSb_is (by kernel_rfl) lpSa_ok lpSb_ok)) rfl (.inl (sud_run a b)) w
end Go.Proofs.Ytebibmioiigplaa.Met

/- Layer 11: MetricKeeps: its rounds. -/
namespace Go.Proofs.Ytebibmioiigplaa.Met
open Go.Eng Go.RowKit Mil Rin
set_option linter.unusedVariables false
set_option linter.unusedSimpArgs false
set_option maxRecDepth 100000
def stMk (m : M2S) (n i : Int) : AMk := ⟨m.gm, m.om, m.s.w, m.s.g, m.s.n, m.s.nw, m.s.ov, m.s.l, m.q.w, m.q.g, m.q.n, m.q.nw, m.q.ov, m.q.l, n, i⟩
def mOfK (a : AMk) : M2S := ⟨a.gm, a.om, ⟨a.w1, a.g1, a.n1, a.nw1, a.ov1, a.l1⟩, ⟨a.w2, a.g2, a.n2, a.nw2, a.ov2, a.l2⟩⟩
def gI (l : List Int) (i : Int) : Int := l.getD (0 + i.toNat) 0
def vK (l : List Int) (i : Int) : Int := wI (Int.tmod (wU (gI l i)) 1000000)
def go0 (p : PMk) (i : Int) : Bool := bif decide (i < (p.k : Int)) then decide (i < 60) else false
theorem wayMk (p : PMk) (m : M2S) (n i : Int) : T.path ([true, true, true, false] ++ chP) (rdMk p (stMk m n i)) = some ((go0 p i, true) :: (idR p.o p.k i, true) :: (ldR p.o i, true) :: ((1000000 : Int) == 0, false) :: puC m i (vK p.o i), (.normal, FMk p (stMk (m.put i (vK p.o i)) (wI (n + 1)) (wI (i + 1))))) := by kernel_rfl
theorem wayMkx (p : PMk) (a : AMk) : T.path [false] (rdMk p a) = some ([(go0 p a.i, false)], (.exit 0, FMk p a)) := by kernel_rfl
def fK (l : List Int) (i : Nat) : Int := vK l (i : Int)
theorem fK_bd (l : List Int) (i : Nat) : 0 ≤ fK l i ∧ fK l i < 1000000 := modI _ (by omega) (by omega)
structure okMk (p : PMk) (a : AMk) : Prop where
  k : p.k = p.o.length
  i0 : 0 ≤ a.i
  i1 : a.i ≤ p.k ∧ a.i ≤ 60
  n : a.n = a.i
  om : a.om = false
  gm : a.gm = 1
  m : TickM (mOfK a) (fK p.o) a.i.toNat
def goMk (p : PMk) (a : AMk) : Bool := go0 p a.i
def muMk (p : PMk) (a : AMk) : Nat := (60 - a.i).toNat
theorem stepMk (p : PMk) (a : AMk) (h : okMk p a) (hg : goMk p a = true) : ∃ b, stepC okMk rdMk FMk muMk p a b := by
  obtain ⟨hk, i0, i1, hn, ho, hgm, hm⟩ := h
  have hg0 := hg
  unfold goMk go0 at hg
  rw [bif_and, Bool.and_eq_true, decide_eq_true_eq, decide_eq_true_eq] at hg
  have hw : wI (a.i + 1) = a.i + 1 := wrap64_in (by omega) (by omega)
  have et : ((a.i.toNat : Nat) : Int) = a.i := by omega
  obtain ⟨x1, x2⟩ := idR_is (g := p.o) (k := p.k) (i := a.i) hk i0 hg.1
  have hb := fK_bd p.o a.i.toNat
  have ef : fK p.o a.i.toNat = vK p.o a.i := by unfold fK; rw [et]
  obtain ⟨c, hm2⟩ := hm.put (v := vK p.o a.i) (by omega) ef (by rw [← ef]; exact hb.1) (by rw [← ef]; omega)
  rw [et] at c hm2
  refine ⟨_, T.path_eval (wayMk p (mOfK a) a.n a.i) ⟨hg0, x1, x2, by kernel_rfl, c⟩, ⟨hk, ?_, ?_, ?_, ho, hgm, ?_⟩, ?_⟩
  · show 0 ≤ wI (a.i + 1); rw [hw]; omega
  · show wI (a.i + 1) ≤ p.k ∧ wI (a.i + 1) ≤ 60; rw [hw]; omega
  · show wI (a.n + 1) = wI (a.i + 1); rw [hn]
  · show TickM ((mOfK a).put a.i (vK p.o a.i)) (fK p.o) (wI (a.i + 1)).toNat
    rw [hw, show (a.i + 1).toNat = a.i.toNat + 1 by omega]; exact hm2
  · show (60 - wI (a.i + 1)).toNat < (60 - a.i).toNat; rw [hw]; omega
theorem exMk (p : PMk) (a : AMk) (h : okMk p a) (hg : goMk p a = false) : (rdMk p a).eval = some (.exit 0, FMk p a) := T.path_eval (wayMkx p a) ⟨hg, trivial⟩
noncomputable def famMk : LSpec := famC [0,1,2,7,8,9,10] SMk 2000 2004 110 decMk okMk goMk rdMk FMk muMk (.exit 0)
theorem lpMk_ok : LoopOk MK lpMk famMk := famC_ok (vs := vsMk) (bs := bsMk) MK_ok mixed (noLoops_ok _) decMk_ok (by simp) (fun _ _ => rfl) (fun _ _ => rfl) stepMk exMk
noncomputable def kepR (l : List Int) (a b : Int) : T V := execS MK (byReg [(rgMk, famMk)]) 9 [.orow 2 [.int .i64] l, Eng.iv a, Eng.iv b]
end Go.Proofs.Ytebibmioiigplaa.Met

/- Layer 11: MetricKeeps. -/
namespace Go.Proofs.Ytebibmioiigplaa.Met
open Go.Eng Go.RowKit Mil Rin
set_option linter.unusedVariables false
set_option linter.unusedSimpArgs false
set_option maxRecDepth 100000
def pMk (l : List Int) (a b : Int) : PMk := ⟨l.length, l, a, b, Conf.dflt.target, Conf.dflt.util, Conf.dflt.stable, Conf.dflt.panic, Conf.dflt.grain, Conf.dflt.threshold, Conf.dflt.up, Conf.dflt.down, Conf.dflt.min, Conf.dflt.max, Conf.dflt.initial, Conf.dflt.grace, Conf.dflt.delay, Conf.dflt.burst, Conf.dflt.limit, Conf.dflt.queue, Conf.dflt.timeout, Conf.dflt.ready, Conf.dflt.subset, Conf.dflt.sample⟩
noncomputable def eMk (l : List Int) (a b : Int) : AMk := endW (nxtC okMk goMk rdMk FMk muMk (pMk l a b)) (stMk m0S 0 0)
def cK (tg st pa : Int) : Conf.Cf := ⟨tg, Conf.dflt.util, st, pa, Conf.dflt.grain, Conf.dflt.threshold, Conf.dflt.up, Conf.dflt.down, Conf.dflt.min, 7, Conf.dflt.initial, Conf.dflt.grace, Conf.dflt.delay, Conf.dflt.burst, Conf.dflt.limit, Conf.dflt.queue, Conf.dflt.timeout, Conf.dflt.ready, Conf.dflt.subset, Conf.dflt.sample⟩
noncomputable def M2S.res (m : M2S) (x y : Int) : M2S := ⟨m.gm, m.om, m.s.res x, m.q.res y⟩
def ovP (om : Bool) (s q : RS) : Bool := bif (bif om then true else bif decide (0 < (s.n : Int)) then s.ov else false) then true else bif decide (0 < (q.n : Int)) then q.ov else false
def aB (a b : Bool) : Bool := bif a then b else false
noncomputable def cKeep (m1 m2 : M2S) (n : Int) : Bool := aB (aB (aB ((0 : Int) == 0) (bif decide (59 < n) then true else m2.s.mean n == m1.s.mean n)) (m2.q.mean n == m1.q.mean n)) ((1 : Int) == 1)
theorem kep_w (l : List Int) (a b tg st : Int) (e : AMk) (m1 m2 : M2S) (ht : wI (10 + wI (Int.tmod (wU a) 1000)) = tg) (hs : wI (60 + wI (Int.tmod (wU b) 100)) = st) (he : eMk l a b = e) (h1 : mOfK e = m1) (h2 : (m1.mean e.n).res st Conf.dflt.panic = m2) :
    T.path [false, false, false, true, true, false, true, true, false, true, false, false, false, true, true, false, true, true, false, true, true, false, true, true, false, true, true, true] (T.anon (kepR l a b)) =
    some ([(!Conf.mayB Conf.dflt, false), (badN Conf.dflt.stable Conf.dflt.grain, false), (badN Conf.dflt.panic Conf.dflt.grain, false), (invC okMk (pMk l a b) (stMk m0S 0 0), true)] ++ (suC m1 e.n ++ ([((1000 : Int) == 0, false), ((100 : Int) == 0, false), (!Conf.mayB (cK tg st Conf.dflt.panic), false), (Conf.dflt.grain == m1.gm, true)] ++ (resC (m1.s.sum e.n) st ++ (resC (m1.q.sum e.n) Conf.dflt.panic ++
      (suC m2 e.n ++ [(!Conf.mayB (cK tg st (wI (61 + st))), true), (cKeep m1 m2 e.n, true)]))))), .s (.bool (aB (cKeep m1 m2 e.n) (!(ovP m2.om (m2.s.sum e.n) (m2.q.sum e.n)))))) := by
  subst ht; subst hs; subst h2; subst h1; subst he; kernel_rfl
/-- another window: what is asked for at t is as before -/
theorem res_mean {s : RS} {w w' : Int} {f : Nat → Int} {k : Nat} (h : Tick s w f k) (hk : k < 100000) (hf : ∀ i, 0 ≤ f i ∧ f i ≤ 1000000000) (h0 : w ≤ w') (h1 : w' ≤ 600) {t : Int} (t1 : (k : Int) ≤ t) (t2 : t ≤ 100000) :
    allSay (resC s w') ∧ allSay (sumC (s.res w') t) ∧ 0 < (s.res w').n ∧ ((s.res w').sum t).n = (s.res w').n ∧ ((s.res w').sum t).ov = false ∧ ((s.res w').sumA t).s = Rin.sv (wn (loT w' t) (t + 1) ((recs f k).filter fun p => decide (s.nw - s.n < p.1))) ∧ ((s.res w').sumA t).c = ((wn (loT w' t) (t + 1) ((recs f k).filter fun p => decide (s.nw - s.n < p.1))).length : Int) := by
  obtain ⟨n1, n2, n3⟩ := h.n
  obtain ⟨c1, hr⟩ := h.h.res (x := w') (by rw [h.g]; omega) h1
  obtain ⟨c2, hp, hs⟩ := hr.sum (t := t) (by omega) (by omega)
  obtain ⟨s1, s2, s3⟩ := smV_s hs
  have e : Int.tdiv t (s.res w').g = t := by show Int.tdiv t s.g = t; rw [h.g, Int.tdiv_one]
  have en : ((s.res w').n : Int) = w' := by
    rw [hr.sn]
    show ((nN w' s.g : Nat) : Int) = w'
    rw [h.g]; exact nN_one (by omega)
  have el : frR (s.res w').n (s.res w').nw t = loT w' t := by
    unfold frR loT
    rw [mxR_l (show (s.res w').nw ≤ t by show s.nw ≤ t; rw [h.nw]; omega), en]
  rw [e, el] at s1 s2 s3
  have hm : ∀ p ∈ wn (loT w' t) (t + 1) ((recs f k).filter fun p => decide (s.nw - s.n < p.1)), 0 ≤ p.2 ∧ p.2 ≤ 1000000000 := by
    intro p hp
    obtain ⟨i, _, rfl⟩ := recs_mem (List.mem_filter.1 (List.mem_filter.1 hp).1).1
    exact hf i
  have hl : (wn (loT w' t) (t + 1) ((recs f k).filter fun p => decide (s.nw - s.n < p.1))).length ≤ k := by
    have q1 := List.length_filter_le (fun p : Rec => decide (loT w' t ≤ p.1) && decide (p.1 < t + 1)) ((recs f k).filter fun p => decide (s.nw - s.n < p.1))
    have q2 := List.length_filter_le (fun p : Rec => decide (s.nw - s.n < p.1)) (recs f k)
    rw [recs_len] at q2
    unfold wn; exact Nat.le_trans q1 q2
  have b0 := sv_nonneg fun p hp => (hm p hp).1
  have b1 := sv_le fun p hp => (hm p hp).2
  have b2 : Rin.sv (wn (loT w' t) (t + 1) ((recs f k).filter fun p => decide (s.nw - s.n < p.1))) ≤ 100000 * 1000000000 := by
    have : ((wn (loT w' t) (t + 1) ((recs f k).filter fun p => decide (s.nw - s.n < p.1))).length : Int) * 1000000000 ≤ 100000 * 1000000000 := Int.mul_le_mul_of_nonneg_right (by omega) (by omega)
    omega
  refine ⟨c1, c2, hr.rep.n0, rfl, ?_, ?_, s2⟩
  · show (bif s.ov then true else ((s.res w').sumA t).k) = false
    rw [h.ov, s3]; exact decide_eq_false (by unfold tpI; omega)
  · rw [s1, cut_small b0 (by omega)]
theorem from_all (f : Nat → Int) {lo : Int} (h : lo ≤ 0) (k : Nat) : fromR lo (recs f k) = recs f k := by
  unfold fromR
  rw [List.filter_eq_self]
  intro p hp
  obtain ⟨i, _, rfl⟩ := recs_mem hp
  exact decide_eq_true (by show lo ≤ (i : Int); omega)
theorem kep_run (l : List Int) (a b : Int) : (kepR l a b).eval = some (.s (.bool true)) := by
  rw [← T.eval_anon (t := kepR l a b)]
  have h0 : okMk (pMk l a b) (stMk m0S 0 0) := ⟨rfl, Int.le_refl _, ⟨by show (0 : Int) ≤ (l.length : Int); omega, by show (0 : Int) ≤ 60; omega⟩, rfl, rfl, rfl, ⟨Tick.new (w := 60) (by omega) (by omega) _, Tick.new (w := 6) (by omega) (by omega) _⟩⟩
  obtain ⟨k1, _⟩ := endC stepMk h0
  have k1 : okMk (pMk l a b) (eMk l a b) := k1
  have hT : 0 ≤ wI (Int.tmod (wU a) 1000) ∧ wI (Int.tmod (wU a) 1000) < 1000 := modI a (by omega) (by omega)
  have hS : 0 ≤ wI (Int.tmod (wU b) 100) ∧ wI (Int.tmod (wU b) 100) < 100 := modI b (by omega) (by omega)
  have way := kep_w l a b _ _ _ _ _ rfl rfl rfl rfl rfl
  have e1 : wI (10 + wI (Int.tmod (wU a) 1000)) = 10 + wI (Int.tmod (wU a) 1000) := wrap64_in (by omega) (by omega)
  have e2 : wI (60 + wI (Int.tmod (wU b) 100)) = 60 + wI (Int.tmod (wU b) 100) := wrap64_in (by omega) (by omega)
  rw [e1, e2] at way
  revert way k1 hT hS
  generalize eMk l a b = e
  generalize wI (Int.tmod (wU a) 1000) = tg
  generalize wI (Int.tmod (wU b) 100) = sb
  intro k1 hT hS way
  have hst : 60 ≤ 60 + sb ∧ 60 + sb < 160 := by omega
  revert way hst
  generalize 60 + sb = st
  intro way hst
  obtain ⟨_, i0, i1, hn, ho, hgm, hm⟩ := k1
  rw [hn] at way
  have et : ((e.i.toNat : Nat) : Int) = e.i := by omega
  have bd : ∀ i, 0 ≤ fK l i ∧ fK l i ≤ 1000000000 := fun i => by have := fK_bd l i; omega
  have hm : TickM (mOfK e) (fK l) e.i.toNat := hm
  obtain ⟨a1, a2, a3, a4⟩ := hm.s.mean (by omega) bd (t := e.i) i0 (by omega) (by omega)
  obtain ⟨b1, b2, b3, b4⟩ := hm.q.mean (by omega) bd (t := e.i) i0 (by omega) (by omega)
  obtain ⟨r1, r2, r3, r4, r5, r6, r7⟩ := res_mean a2 (w' := st) (by omega) bd (by omega) (by omega) (t := e.i) (by omega) (by omega)
  obtain ⟨s1, s2, s3, s4, s5, s6, s7⟩ := res_mean b2 (w' := 6) (by omega) bd (by omega) (by omega) (t := e.i) (by omega) (by omega)
  have g1 : (Conf.dflt.grain == (mOfK e).gm) = true := by show ((1 : Int) == e.gm) = true; rw [hgm]; rfl
  have may : (!Conf.mayB (cK (10 + tg) st Conf.dflt.panic)) = false := by
    rw [(Conf.may_iff _).2]; rfl
    refine ⟨?_, ?_, ?_, ?_, ?_, ?_, ?_, ?_, ?_, ?_, ?_, ?_, ?_, ?_, ?_, ?_, ?_, ?_, ?_, ?_⟩
    · show 10 ≤ 10 + tg ∧ 10 + tg ≤ 1000000; omega
    · show (100 : Int) ≤ 700 ∧ (700 : Int) ≤ 1000; omega
    · show 6 ≤ st ∧ st ≤ 600; omega
    · show (1 : Int) ≤ 6 ∧ (6 : Int) ≤ st; omega
    · show (1 : Int) ≤ 1 ∧ (1 : Int) ≤ 6; omega
    · show (1100 : Int) ≤ 2000 ∧ (2000 : Int) ≤ 10000; omega
    · show (1001 : Int) ≤ 10000 ∧ (10000 : Int) ≤ 1000000; omega
    · show (1001 : Int) ≤ 2000 ∧ (2000 : Int) ≤ 1000000; omega
    · show (0 : Int) ≤ 0 ∧ (0 : Int) ≤ 100; omega
    · refine .inr ?_; show (0 : Int) ≤ 7 ∧ (1 : Int) ≤ 7 ∧ (7 : Int) ≤ 100; omega
    · show (0 : Int) ≤ 1 ∧ (1 : Int) ≤ 7; omega
    · show (0 : Int) ≤ 30 ∧ (30 : Int) ≤ 600; omega
    · show (0 : Int) ≤ 0 ∧ (0 : Int) ≤ 600; omega
    · refine .inr ?_; show (0 : Int) ≤ 20000 ∧ (20000 : Int) ≤ 100000000; omega
    · show (1 : Int) ≤ 10 ∧ (10 : Int) ≤ 1000; omega
    · show (0 : Int) ≤ 100 ∧ (100 : Int) ≤ 200; omega
    · show (1 : Int) ≤ 60 ∧ (60 : Int) ≤ 10000; omega
    · show (0 : Int) ≤ 3 ∧ (3 : Int) ≤ 100; omega
    · show (0 : Int) ≤ 0 ∧ (0 : Int) ≤ 100; omega
    · show (0 : Int) ≤ 0 ∧ (0 : Int) ≤ 100; omega
  have may2 : (!Conf.mayB (cK (10 + tg) st (wI (61 + st)))) = true := by
    cases h : Conf.mayB (cK (10 + tg) st (wI (61 + st))) with
    | false => rfl
    | true =>
      have q : wI (61 + st) ≤ st := (Conf.may_of h).panic.2
      rw [show wI (61 + st) = 61 + st from wrap64_in (by omega) (by omega)] at q
      omega
  have nw : (mOfK e).s.nw = e.i - 1 := by have := hm.s.nw; rw [et] at this; exact this
  have nwq : (mOfK e).q.nw = e.i - 1 := by have := hm.q.nw; rw [et] at this; exact this
  have ns : ((mOfK e).s.n : Int) = 60 := hm.s.n.1
  have nq : ((mOfK e).q.n : Int) = 6 := hm.q.n.1
  have c : cKeep (mOfK e) (((mOfK e).mean e.i).res st Conf.dflt.panic) e.i = true := by
    unfold cKeep
    have y : (((mOfK e).q.sum e.i).res 6).mean e.i = (mOfK e).q.mean e.i := by
      have ew : wn (loT 6 e.i) (e.i + 1) ((recs (fK l) e.i.toNat).filter fun p => decide (((mOfK e).q.sum e.i).nw - ((mOfK e).q.sum e.i).n < p.1)) = fromR (loT 6 e.i) (recs (fK l) e.i.toNat) := by
        unfold wn fromR
        rw [List.filter_filter]
        apply List.filter_congr
        intro p hp
        obtain ⟨i, hi, rfl⟩ := recs_mem hp
        have z1 : ((mOfK e).q.sum e.i).nw = e.i - 1 := nwq
        have z2 : (((mOfK e).q.sum e.i).n : Int) = 6 := nq
        rw [z1, z2, Bool.eq_iff_iff]
        simp only [Bool.and_eq_true, decide_eq_true_eq]
        unfold loT
        split <;> omega
      unfold RS.mean
      rw [s6, s7, ew, b3, b4]
    have x : decide (59 < e.i) = false → (((mOfK e).s.sum e.i).res st).mean e.i = (mOfK e).s.mean e.i := by
      intro hd
      have hd := of_decide_eq_false hd
      have ew : wn (loT st e.i) (e.i + 1) ((recs (fK l) e.i.toNat).filter fun p => decide (((mOfK e).s.sum e.i).nw - ((mOfK e).s.sum e.i).n < p.1)) = recs (fK l) e.i.toNat := by
        unfold wn
        rw [List.filter_filter, List.filter_eq_self]
        intro p hp
        obtain ⟨i, hi, rfl⟩ := recs_mem hp
        have z1 : ((mOfK e).s.sum e.i).nw = e.i - 1 := nw
        have z2 : (((mOfK e).s.sum e.i).n : Int) = 60 := ns
        rw [z1, z2]
        simp only [Bool.and_eq_true, decide_eq_true_eq]
        unfold loT
        split <;> omega
      unfold RS.mean
      rw [r6, r7, ew, a3, a4, from_all _ (by unfold loT; split <;> omega)]
    show aB (aB (aB ((0 : Int) == 0) (bif decide (59 < e.i) then true else (((mOfK e).s.sum e.i).res st).mean e.i == (mOfK e).s.mean e.i)) ((((mOfK e).q.sum e.i).res 6).mean e.i == (mOfK e).q.mean e.i)) ((1 : Int) == 1) = true
    rw [y]
    cases hd : decide (59 < e.i) with
    | true => simp [aB]
    | false => rw [x hd]; simp [aB]
  have mz : (!Conf.mayB Conf.dflt) = false := by kernel_rfl
  have z1 : badN Conf.dflt.stable Conf.dflt.grain = false := by kernel_rfl
  have z2 : badN Conf.dflt.panic Conf.dflt.grain = false := by kernel_rfl
  refine (T.path_eval way (allSay_append ⟨mz, z1, z2, invC_is h0, trivial⟩ (allSay_append (allSay_append a1 b1) (allSay_append ⟨by kernel_rfl, by kernel_rfl, may, g1, trivial⟩ (allSay_append r1 (allSay_append s1 (allSay_append (allSay_append r2 s2) ⟨may2, c, trivial⟩))))))).trans ?_
  have ov : ovP (((mOfK e).mean e.i).res st Conf.dflt.panic).om ((((mOfK e).mean e.i).res st Conf.dflt.panic).s.sum e.i) ((((mOfK e).mean e.i).res st Conf.dflt.panic).q.sum e.i) = false := by
    unfold ovP
    have o1 : (((mOfK e).mean e.i).res st Conf.dflt.panic).om = false := ho
    have o2 : ((((mOfK e).mean e.i).res st Conf.dflt.panic).s.sum e.i).ov = false := r5
    have o3 : ((((mOfK e).mean e.i).res st Conf.dflt.panic).q.sum e.i).ov = false := s5
    rw [o1, o2, o3]
    simp
  rw [ov, c]; rfl
theorem kep_walk (l : List Int) (_ : l.length ≤ maxLen) (_ : ∀ x ∈ l, (Lit.int .i64 x).wf = true) (x : Value) (a : Int) (_ : (Lit.int .i64 a).wf = true) (b : Int) (_ : (Lit.int .i64 b).wf = true) (W : World) (hx : holdsP 0 W (.orow 2 [.int .i64] l) x) :
    Calls Try.prog 9 #[x, .int .i64 a, .int .i64 b] W fun e w' => e = .returned (.bool true) ∧ Below W.heap.size W w' :=
  Law.law_rows (args := [.orow 2 [.int .i64] l, Eng.iv a, Eng.iv b]) (xs := [x, .int .i64 a, .int .i64 b]) (execS_loops (Λ := byReg [(rgMk, famMk)]) MK_ok Rin.mixed Try.func9 (by kernel_rfl) (by kernel_rfl) (one_lp (by kernel_rfl) rgMk_is lpMk_ok)) rfl (.inr (kep_run l a b)) W ⟨hx, rfl, rfl, trivial⟩
end Go.Proofs.Ytebibmioiigplaa.Met

