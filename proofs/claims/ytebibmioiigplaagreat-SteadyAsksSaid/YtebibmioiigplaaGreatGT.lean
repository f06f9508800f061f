import Derived.Test.YtebibmioiigplaaGreatGS
/- Layer 26: Run: its calls. -/
namespace Go.Proofs.YtebibmioiigplaaGreat.Dec
open Go.Eng Go.RowKit Mil Rin
set_option linter.unusedVariables false
set_option linter.unusedSimpArgs false
set_option maxRecDepth 100000
noncomputable def SR : Cfg := ⟨Tryz.prog, lookG [(53, .obj sofE), (5, .obj dneS), (12, .obj nexS), (8, .obj dputS)], [], 0⟩
theorem SR_ok : SR.Ok := Cfg.ok ⟨sofE_ok, dneS_ok, nexS_ok, dputS_ok, trivial⟩ trivial
end Go.Proofs.YtebibmioiigplaaGreat.Dec

/- Layer 26: Run: its loop. -/
namespace Go.Proofs.YtebibmioiigplaaGreat.Dec
open Go.Eng Go.RowKit Mil Rin
set_option linter.unusedVariables false
set_option linter.unusedSimpArgs false
set_option maxRecDepth 100000
abbrev Dcn := Int × Int × Int × Int × Bool × Int
noncomputable def lpRu : Code := loopAt Tryz.prog 17 0
structure PRu where (v : Int) (n : Int) (k : Nat) (r0 : Int) (ctargetA : Int) (cutilA : Int) (cstableA : Int) (cpanicA : Int) (cgrainA : Int) (cthresholdA : Int) (cupA : Int) (cdownA : Int) (cminA : Int) (cmaxA : Int) (cinitialA : Int) (cgraceA : Int) (cdelayA : Int) (cburstA : Int) (climitA : Int) (cqueueA : Int) (ctimeoutA : Int) (creadyA : Int) (csubsetA : Int) (csampleA : Int)
structure ARu where (gmA : Int) (omA : Bool) (spA : Int) (aA : Int) (nlA : Nat) (w1A : Int) (g1A : Int) (n1A : Nat) (nw1A : Int) (ov1A : Bool) (w2A : Int) (g2A : Int) (n2A : Nat) (nw2A : Int) (ov2A : Bool) (l1A : List OB) (l2A : List OB) (lA : List (Int × Int)) (siA : Int) (moA : Int) (laA : Int) (o : List (Int × Int × Int × Int × Bool × Int)) (r : Int) (i : Int)
abbrev SRu : List (Nat × Src) := [(32, .same), (2000, .path 32 [20]), (2001, .path 32 [21]), (2002, .path 32 [20, 0, 0]), (2003, .path 32 [20, 0, 1]), (2004, .path 32 [20, 0, 0, 2]), (2005, .path 32 [20, 0, 1, 2]), (2006, .path 32 [21, 2]), (40, .same)]
def vsRu (p : PRu) (a : ARu) : List V := [iv p.v, iv a.r, .ptr 32 0, .sub 40 6 0 p.k, iv p.n, iv a.i]
def bsRu (p : PRu) (a : ARu) : List Blk := [.cells 59 [iv p.ctargetA, iv p.cutilA, iv p.cstableA, iv p.cpanicA, iv p.cgrainA, iv p.cthresholdA, iv p.cupA, iv p.cdownA, iv p.cminA, iv p.cmaxA, iv p.cinitialA, iv p.cgraceA, iv p.cdelayA, iv p.cburstA, iv p.climitA, iv p.cqueueA, iv p.ctimeoutA, iv p.creadyA, iv p.csubsetA, iv p.csampleA, .ptr 2000 0, .ptr 2001 0, iv a.siA, iv a.moA, iv a.laA], .cells 93 [.iface 90 (.agg [.ptr 2002 0, .ptr 2003 0]), iv a.gmA, bv a.omA], .cells 97 [iv a.spA, iv a.aA, .sub 2006 2 0 a.nlA], .cells 131 [iv a.w1A, iv a.g1A, .sub 2004 1 0 a.n1A, iv a.nw1A, bv a.ov1A], .cells 131 [iv a.w2A, iv a.g2A, .sub 2005 1 0 a.n2A, iv a.nw2A, bv a.ov2A], .bx 20 134 138 [.int .i64, .int .i64, .bool] a.l1A [] none, .bx 20 134 138 [.int .i64, .int .i64, .bool] a.l2A [] none, .lst true 160 [.int .i64, .int .i64] a.lA, .lst true 43 [.int .i64, .int .i64, .int .i64, .int .i64, .bool, .int .i64] a.o]
noncomputable def FRu (p : PRu) (a : ARu) : St := mkSt [1,2,11,12,37,38] (keysR SRu) 2020 64 (vsRu p a) (bsRu p a)
noncomputable def rdRu (p : PRu) (a : ARu) : T (Ex × St) := T.anon (roundN SR noLoops lpRu [1,2,11,12,37,38] SRu 2000 2020 (mkSt [1,2,11,12,37,38] (keysR SRu) 2020 64 (vsRu p a) (bsRu p a)))
def decRu_v0 : V → Option ((Int))
  | .s (.int .i64 v) => some (v)
  | _ => none
theorem decRu_v0_ok (b : V) (x0 : (Int)) (h : decRu_v0 b = some x0) : b = iv (x0) := by
  unfold decRu_v0 at h
  split at h
  · cases h
    rfl
  · cases h
def decRu_v1 : V → Option ((Int))
  | .s (.int .i64 r) => some (r)
  | _ => none
theorem decRu_v1_ok (b : V) (x1 : (Int)) (h : decRu_v1 b = some x1) : b = iv (x1) := by
  unfold decRu_v1 at h
  split at h
  · cases h
    rfl
  · cases h
def decRu_v2 : V → Option (Unit)
  | .ptr 32 0 => some ()
  | _ => none
theorem decRu_v2_ok (b : V) (x2 : Unit) (h : decRu_v2 b = some x2) : b = .ptr 32 0 := by
  unfold decRu_v2 at h
  split at h
  · cases h
    rfl
  · cases h
def decRu_v3 : V → Option ((Nat))
  | .sub 40 6 0 k => some (k)
  | _ => none
theorem decRu_v3_ok (b : V) (x3 : (Nat)) (h : decRu_v3 b = some x3) : b = .sub 40 6 0 (x3) := by
  unfold decRu_v3 at h
  split at h
  · cases h
    rfl
  · cases h
def decRu_v4 : V → Option ((Int))
  | .s (.int .i64 n) => some (n)
  | _ => none
theorem decRu_v4_ok (b : V) (x4 : (Int)) (h : decRu_v4 b = some x4) : b = iv (x4) := by
  unfold decRu_v4 at h
  split at h
  · cases h
    rfl
  · cases h
def decRu_v5 : V → Option ((Int))
  | .s (.int .i64 i) => some (i)
  | _ => none
theorem decRu_v5_ok (b : V) (x5 : (Int)) (h : decRu_v5 b = some x5) : b = iv (x5) := by
  unfold decRu_v5 at h
  split at h
  · cases h
    rfl
  · cases h
def decRu_b0 : Blk → Option ((Int) × (Int) × (Int) × (Int) × (Int) × (Int) × (Int) × (Int) × (Int) × (Int) × (Int) × (Int) × (Int) × (Int) × (Int) × (Int) × (Int) × (Int) × (Int) × (Int) × (Int) × (Int) × (Int))
  | .cells tt0 [.s (.int .i64 ctargetA), .s (.int .i64 cutilA), .s (.int .i64 cstableA), .s (.int .i64 cpanicA), .s (.int .i64 cgrainA), .s (.int .i64 cthresholdA), .s (.int .i64 cupA), .s (.int .i64 cdownA), .s (.int .i64 cminA), .s (.int .i64 cmaxA), .s (.int .i64 cinitialA), .s (.int .i64 cgraceA), .s (.int .i64 cdelayA), .s (.int .i64 cburstA), .s (.int .i64 climitA), .s (.int .i64 cqueueA), .s (.int .i64 ctimeoutA), .s (.int .i64 creadyA), .s (.int .i64 csubsetA), .s (.int .i64 csampleA), .ptr 2000 0, .ptr 2001 0, .s (.int .i64 siA), .s (.int .i64 moA), .s (.int .i64 laA)] => if tt0 = 59 then some (ctargetA, cutilA, cstableA, cpanicA, cgrainA, cthresholdA, cupA, cdownA, cminA, cmaxA, cinitialA, cgraceA, cdelayA, cburstA, climitA, cqueueA, ctimeoutA, creadyA, csubsetA, csampleA, siA, moA, laA) else none
  | _ => none
theorem decRu_b0_ok (b : Blk) (y0 : (Int) × (Int) × (Int) × (Int) × (Int) × (Int) × (Int) × (Int) × (Int) × (Int) × (Int) × (Int) × (Int) × (Int) × (Int) × (Int) × (Int) × (Int) × (Int) × (Int) × (Int) × (Int) × (Int)) (h : decRu_b0 b = some y0) : b = .cells 59 [iv (y0.1), iv (y0.2.1), iv (y0.2.2.1), iv (y0.2.2.2.1), iv (y0.2.2.2.2.1), iv (y0.2.2.2.2.2.1), iv (y0.2.2.2.2.2.2.1), iv (y0.2.2.2.2.2.2.2.1), iv (y0.2.2.2.2.2.2.2.2.1), iv (y0.2.2.2.2.2.2.2.2.2.1), iv (y0.2.2.2.2.2.2.2.2.2.2.1), iv (y0.2.2.2.2.2.2.2.2.2.2.2.1), iv (y0.2.2.2.2.2.2.2.2.2.2.2.2.1), iv (y0.2.2.2.2.2.2.2.2.2.2.2.2.2.1), iv (y0.2.2.2.2.2.2.2.2.2.2.2.2.2.2.1), iv (y0.2.2.2.2.2.2.2.2.2.2.2.2.2.2.2.1), iv (y0.2.2.2.2.2.2.2.2.2.2.2.2.2.2.2.2.1), iv (y0.2.2.2.2.2.2.2.2.2.2.2.2.2.2.2.2.2.1), iv (y0.2.2.2.2.2.2.2.2.2.2.2.2.2.2.2.2.2.2.1), iv (y0.2.2.2.2.2.2.2.2.2.2.2.2.2.2.2.2.2.2.2.1), .ptr 2000 0, .ptr 2001 0, iv (y0.2.2.2.2.2.2.2.2.2.2.2.2.2.2.2.2.2.2.2.2.1), iv (y0.2.2.2.2.2.2.2.2.2.2.2.2.2.2.2.2.2.2.2.2.2.1), iv (y0.2.2.2.2.2.2.2.2.2.2.2.2.2.2.2.2.2.2.2.2.2.2)] := by
  unfold decRu_b0 at h
  split at h
  · obtain ⟨e0, h⟩ := ite_some0 h
    subst e0
    cases h
    rfl
  · cases h
def decRu_b1 : Blk → Option ((Int) × (Bool))
  | .cells tt0 [.iface tt1 (.agg [.ptr 2002 0, .ptr 2003 0]), .s (.int .i64 gmA), .s (.bool omA)] => if tt0 = 93 then if tt1 = 90 then some (gmA, omA) else none else none
  | _ => none
theorem decRu_b1_ok (b : Blk) (y1 : (Int) × (Bool)) (h : decRu_b1 b = some y1) : b = .cells 93 [.iface 90 (.agg [.ptr 2002 0, .ptr 2003 0]), iv (y1.1), bv (y1.2)] := by
  unfold decRu_b1 at h
  split at h
  · obtain ⟨e0, h⟩ := ite_some0 h
    obtain ⟨e1, h⟩ := ite_some0 h
    subst e0 e1
    cases h
    rfl
  · cases h
def decRu_b2 : Blk → Option ((Int) × (Int) × (Nat))
  | .cells tt0 [.s (.int .i64 spA), .s (.int .i64 aA), .sub 2006 2 0 nlA] => if tt0 = 97 then some (spA, aA, nlA) else none
  | _ => none
theorem decRu_b2_ok (b : Blk) (y2 : (Int) × (Int) × (Nat)) (h : decRu_b2 b = some y2) : b = .cells 97 [iv (y2.1), iv (y2.2.1), .sub 2006 2 0 (y2.2.2)] := by
  unfold decRu_b2 at h
  split at h
  · obtain ⟨e0, h⟩ := ite_some0 h
    subst e0
    cases h
    rfl
  · cases h
def decRu_b3 : Blk → Option ((Int) × (Int) × (Nat) × (Int) × (Bool))
  | .cells tt0 [.s (.int .i64 w1A), .s (.int .i64 g1A), .sub 2004 1 0 n1A, .s (.int .i64 nw1A), .s (.bool ov1A)] => if tt0 = 131 then some (w1A, g1A, n1A, nw1A, ov1A) else none
  | _ => none
theorem decRu_b3_ok (b : Blk) (y3 : (Int) × (Int) × (Nat) × (Int) × (Bool)) (h : decRu_b3 b = some y3) : b = .cells 131 [iv (y3.1), iv (y3.2.1), .sub 2004 1 0 (y3.2.2.1), iv (y3.2.2.2.1), bv (y3.2.2.2.2)] := by
  unfold decRu_b3 at h
  split at h
  · obtain ⟨e0, h⟩ := ite_some0 h
    subst e0
    cases h
    rfl
  · cases h
def decRu_b4 : Blk → Option ((Int) × (Int) × (Nat) × (Int) × (Bool))
  | .cells tt0 [.s (.int .i64 w2A), .s (.int .i64 g2A), .sub 2005 1 0 n2A, .s (.int .i64 nw2A), .s (.bool ov2A)] => if tt0 = 131 then some (w2A, g2A, n2A, nw2A, ov2A) else none
  | _ => none
theorem decRu_b4_ok (b : Blk) (y4 : (Int) × (Int) × (Nat) × (Int) × (Bool)) (h : decRu_b4 b = some y4) : b = .cells 131 [iv (y4.1), iv (y4.2.1), .sub 2005 1 0 (y4.2.2.1), iv (y4.2.2.2.1), bv (y4.2.2.2.2)] := by
  unfold decRu_b4 at h
  split at h
  · obtain ⟨e0, h⟩ := ite_some0 h
    subst e0
    cases h
    rfl
  · cases h
def decRu_b5 : Blk → Option ((List OB))
  | .bx tt0 tt1 tt2 [.int .i64, .int .i64, .bool] l1A [] none => if tt0 = 20 then if tt1 = 134 then if tt2 = 138 then some (l1A) else none else none else none
  | _ => none
theorem decRu_b5_ok (b : Blk) (y5 : (List OB)) (h : decRu_b5 b = some y5) : b = .bx 20 134 138 [.int .i64, .int .i64, .bool] (y5) [] none := by
  unfold decRu_b5 at h
  split at h
  · obtain ⟨e0, h⟩ := ite_some0 h
    obtain ⟨e1, h⟩ := ite_some0 h
    obtain ⟨e2, h⟩ := ite_some0 h
    subst e0 e1 e2
    cases h
    rfl
  · cases h
def decRu_b6 : Blk → Option ((List OB))
  | .bx tt0 tt1 tt2 [.int .i64, .int .i64, .bool] l2A [] none => if tt0 = 20 then if tt1 = 134 then if tt2 = 138 then some (l2A) else none else none else none
  | _ => none
theorem decRu_b6_ok (b : Blk) (y6 : (List OB)) (h : decRu_b6 b = some y6) : b = .bx 20 134 138 [.int .i64, .int .i64, .bool] (y6) [] none := by
  unfold decRu_b6 at h
  split at h
  · obtain ⟨e0, h⟩ := ite_some0 h
    obtain ⟨e1, h⟩ := ite_some0 h
    obtain ⟨e2, h⟩ := ite_some0 h
    subst e0 e1 e2
    cases h
    rfl
  · cases h
def decRu_b7 : Blk → Option ((List (Int × Int)))
  | .lst true tt0 [.int .i64, .int .i64] lA => if tt0 = 160 then some (lA) else none
  | _ => none
theorem decRu_b7_ok (b : Blk) (y7 : (List (Int × Int))) (h : decRu_b7 b = some y7) : b = .lst true 160 [.int .i64, .int .i64] (y7) := by
  unfold decRu_b7 at h
  split at h
  · obtain ⟨e0, h⟩ := ite_some0 h
    subst e0
    cases h
    rfl
  · cases h
def decRu_b8 : Blk → Option ((List (Int × Int × Int × Int × Bool × Int)))
  | .lst true tt0 [.int .i64, .int .i64, .int .i64, .int .i64, .bool, .int .i64] o => if tt0 = 43 then some (o) else none
  | _ => none
theorem decRu_b8_ok (b : Blk) (y8 : (List (Int × Int × Int × Int × Bool × Int))) (h : decRu_b8 b = some y8) : b = .lst true 43 [.int .i64, .int .i64, .int .i64, .int .i64, .bool, .int .i64] (y8) := by
  unfold decRu_b8 at h
  split at h
  · obtain ⟨e0, h⟩ := ite_some0 h
    subst e0
    cases h
    rfl
  · cases h
def decRu : List V → List Blk → Option (PRu × ARu)
  | [v0, v1, v2, v3, v4, v5], [b0, b1, b2, b3, b4, b5, b6, b7, b8] => (decRu_v0 v0).bind fun x0 => (decRu_v1 v1).bind fun x1 => (decRu_v2 v2).bind fun x2 => (decRu_v3 v3).bind fun x3 => (decRu_v4 v4).bind fun x4 => (decRu_v5 v5).bind fun x5 => (decRu_b0 b0).bind fun y0 => (decRu_b1 b1).bind fun y1 => (decRu_b2 b2).bind fun y2 => (decRu_b3 b3).bind fun y3 => (decRu_b4 b4).bind fun y4 => (decRu_b5 b5).bind fun y5 => (decRu_b6 b6).bind fun y6 => (decRu_b7 b7).bind fun y7 => (decRu_b8 b8).bind fun y8 => some (⟨(x0), (x4), (x3), (x1), (y0.1), (y0.2.1), (y0.2.2.1), (y0.2.2.2.1), (y0.2.2.2.2.1), (y0.2.2.2.2.2.1), (y0.2.2.2.2.2.2.1), (y0.2.2.2.2.2.2.2.1), (y0.2.2.2.2.2.2.2.2.1), (y0.2.2.2.2.2.2.2.2.2.1), (y0.2.2.2.2.2.2.2.2.2.2.1), (y0.2.2.2.2.2.2.2.2.2.2.2.1), (y0.2.2.2.2.2.2.2.2.2.2.2.2.1), (y0.2.2.2.2.2.2.2.2.2.2.2.2.2.1), (y0.2.2.2.2.2.2.2.2.2.2.2.2.2.2.1), (y0.2.2.2.2.2.2.2.2.2.2.2.2.2.2.2.1), (y0.2.2.2.2.2.2.2.2.2.2.2.2.2.2.2.2.1), (y0.2.2.2.2.2.2.2.2.2.2.2.2.2.2.2.2.2.1), (y0.2.2.2.2.2.2.2.2.2.2.2.2.2.2.2.2.2.2.1), (y0.2.2.2.2.2.2.2.2.2.2.2.2.2.2.2.2.2.2.2.1)⟩, ⟨(y1.1), (y1.2), (y2.1), (y2.2.1), (y2.2.2), (y3.1), (y3.2.1), (y3.2.2.1), (y3.2.2.2.1), (y3.2.2.2.2), (y4.1), (y4.2.1), (y4.2.2.1), (y4.2.2.2.1), (y4.2.2.2.2), (y5), (y6), (y7), (y0.2.2.2.2.2.2.2.2.2.2.2.2.2.2.2.2.2.2.2.2.1), (y0.2.2.2.2.2.2.2.2.2.2.2.2.2.2.2.2.2.2.2.2.2.1), (y0.2.2.2.2.2.2.2.2.2.2.2.2.2.2.2.2.2.2.2.2.2.2), (y8), (x1), (x5)⟩)
  | _, _ => none
theorem decRu_ok (l : List V) (b : List Blk) (d : PRu × ARu) (h : decRu l b = some d) : l = vsRu d.1 d.2 ∧ b = bsRu d.1 d.2 := by
  unfold decRu at h
  split at h
  · obtain ⟨x0, hx0, h⟩ := Option.bind_eq_some_iff.1 h
    obtain ⟨x1, hx1, h⟩ := Option.bind_eq_some_iff.1 h
    obtain ⟨x2, hx2, h⟩ := Option.bind_eq_some_iff.1 h
    obtain ⟨x3, hx3, h⟩ := Option.bind_eq_some_iff.1 h
    obtain ⟨x4, hx4, h⟩ := Option.bind_eq_some_iff.1 h
    obtain ⟨x5, hx5, h⟩ := Option.bind_eq_some_iff.1 h
    obtain ⟨y0, hy0, h⟩ := Option.bind_eq_some_iff.1 h
    obtain ⟨y1, hy1, h⟩ := Option.bind_eq_some_iff.1 h
    obtain ⟨y2, hy2, h⟩ := Option.bind_eq_some_iff.1 h
    obtain ⟨y3, hy3, h⟩ := Option.bind_eq_some_iff.1 h
    obtain ⟨y4, hy4, h⟩ := Option.bind_eq_some_iff.1 h
    obtain ⟨y5, hy5, h⟩ := Option.bind_eq_some_iff.1 h
    obtain ⟨y6, hy6, h⟩ := Option.bind_eq_some_iff.1 h
    obtain ⟨y7, hy7, h⟩ := Option.bind_eq_some_iff.1 h
    obtain ⟨y8, hy8, h⟩ := Option.bind_eq_some_iff.1 h
    have ex0 := decRu_v0_ok _ _ hx0
    have ex1 := decRu_v1_ok _ _ hx1
    have ex2 := decRu_v2_ok _ _ hx2
    have ex3 := decRu_v3_ok _ _ hx3
    have ex4 := decRu_v4_ok _ _ hx4
    have ex5 := decRu_v5_ok _ _ hx5
    have ey0 := decRu_b0_ok _ _ hy0
    have ey1 := decRu_b1_ok _ _ hy1
    have ey2 := decRu_b2_ok _ _ hy2
    have ey3 := decRu_b3_ok _ _ hy3
    have ey4 := decRu_b4_ok _ _ hy4
    have ey5 := decRu_b5_ok _ _ hy5
    have ey6 := decRu_b6_ok _ _ hy6
    have ey7 := decRu_b7_ok _ _ hy7
    have ey8 := decRu_b8_ok _ _ hy8
    cases h
    subst ex0 ex1 ex2 ex3 ex4 ex5 ey0 ey1 ey2 ey3 ey4 ey5 ey6 ey7 ey8
    exact ⟨rfl, rfl⟩
  · cases h
noncomputable def rgRu : Nat := (firstReg lpRu).getD 0
theorem rgRu_is : firstReg lpRu = some rgRu := by kernel_rfl
def pRu (v : Int) (k : Nat) (r0 : Int) (c : Conf.Cf) : PRu := ⟨v, k, k, r0, c.target, c.util, c.stable, c.panic, c.grain, c.threshold, c.up, c.down, c.min, c.max, c.initial, c.grace, c.delay, c.burst, c.limit, c.queue, c.timeout, c.ready, c.subset, c.sample⟩
def stRu (d : DcS) (o : List Dcn) (r i : Int) : ARu := ⟨d.gm, d.om, d.sp, d.a, d.n, d.s.w, d.s.g, d.s.n, d.s.nw, d.s.ov, d.q.w, d.q.g, d.q.n, d.q.nw, d.q.ov, d.s.l, d.q.l, d.l, d.si, d.mo, d.la, o, r, i⟩
end Go.Proofs.YtebibmioiigplaaGreat.Dec

/- Layer 26: a load that stays: what is measured. -/
namespace Go.Proofs.YtebibmioiigplaaGreat.Dec
open Go.Eng Go.RowKit Mil Rin
set_option linter.unusedVariables false
set_option linter.unusedSimpArgs false
set_option maxRecDepth 100000
theorem sv_con {v : Int} : ∀ {rs : List Rin.Rec}, (∀ p ∈ rs, p.2 = v) → sv rs = rs.length * v
  | [], _ => by simp [Rin.sv]
  | p :: r, h => by
    have h1 := sv_con (rs := r) fun q hq => h q (List.mem_cons_of_mem _ hq)
    have h2 := h p List.mem_cons_self
    rw [sv_cons, h1, h2, List.length_cons, Int.natCast_add, Int.add_mul]
    show v + _ = _ + 1 * v
    rw [Int.one_mul]; omega
/-- a ring of at most m records of v, the newest bucket not ahead of t -/
structure RCv (s : RS) (v : Int) (m : Nat) (t : Int) : Prop where
  h : ∃ rs, HoldsR s rs ∧ rs.length ≤ m ∧ ∀ p ∈ rs, p.2 = v
  nw : s.nw ≤ Int.tdiv t s.g
theorem tdiv_mono {a b g : Int} (h0 : 0 ≤ a) (h : a ≤ b) (hg : 1 ≤ g) : Int.tdiv a g ≤ Int.tdiv b g := by
  rw [Int.tdiv_eq_ediv_of_nonneg h0, Int.tdiv_eq_ediv_of_nonneg (by omega)]
  exact Int.ediv_le_ediv (by omega) h
theorem RCv.new {w g v : Int} (h1 : 1 ≤ g) (h2 : g ≤ w) (h3 : w ≤ 600) : RCv (RS.new w g) v 0 0 := ⟨⟨[], HoldsR.new h1 h2 h3, Nat.le_refl _, fun p hp => by cases hp⟩, by show (-1 : Int) ≤ Int.tdiv 0 g; simp⟩
theorem RCv.sum {s : RS} {v : Int} {m : Nat} {t : Int} (h : RCv s v m t) (t0 : 0 ≤ t) (t1 : t ≤ 1099511627776) : RCv (s.sum t) v m t := by
  obtain ⟨rs, h1, h2, h3⟩ := h.h
  exact ⟨⟨rs, (h1.sum t0 (by omega)).2.1, h2, h3⟩, h.nw⟩
/-- put at t: the mean is v -/
theorem RCv.put {s : RS} {v : Int} {m : Nat} {t t' : Int} (h : RCv s v m t) (hm : m < 100000) (t0 : 0 ≤ t) (tt : t ≤ t') (t1 : t' ≤ 1099511627776) (v0 : 0 ≤ v) (v1 : v ≤ 1000000000) : RCv (s.put t' v) v (m + 1) t' ∧ (s.put t' v).mean t' = v := by
  obtain ⟨rs, h1, h2, h3⟩ := h.h
  obtain ⟨c, hp⟩ := h1.put (t := t') (v := v) (by omega) t1 v0 (by omega) (by omega)
  have hg := h1.g1
  have hn := h1.rep.n0
  have hb := tdiv_mono t0 tt hg
  have hnw : s.nw ≤ Int.tdiv t' s.g := by have := h.nw; omega
  have e : mxR s.nw (Int.tdiv t' s.g) = Int.tdiv t' s.g := mxR_r hnw
  have b0 : 0 ≤ Int.tdiv t' s.g := Int.tdiv_nonneg (by omega) (by omega)
  rw [putRs_in (by rw [e]; omega)] at hp
  have all : ∀ p ∈ rs ++ [(Int.tdiv t' s.g, v)], p.2 = v := by
    intro p hp
    rcases List.mem_append.1 hp with hp | hp
    · exact h3 p hp
    · rw [List.mem_singleton.1 hp]
  have enw : (s.put t' v).nw = Int.tdiv t' s.g := e
  refine ⟨⟨⟨_, hp, by rw [List.length_append]; show rs.length + 1 ≤ m + 1; omega, all⟩, by show (s.put t' v).nw ≤ Int.tdiv t' s.g; rw [enw]; exact Int.le_refl _⟩, ?_⟩
  obtain ⟨_, _, hs⟩ := hp.sum (t := t') (by omega) (by omega)
  obtain ⟨s1, s2, _⟩ := smV_s hs
  have eg : (s.put t' v).g = s.g := rfl
  have en : (s.put t' v).n = s.n := rfl
  rw [eg, en, enw] at s1 s2
  have hmem : (Int.tdiv t' s.g, v) ∈ wn (frR s.n (Int.tdiv t' s.g) (Int.tdiv t' s.g)) (Int.tdiv t' s.g + 1) (rs ++ [(Int.tdiv t' s.g, v)]) := by
    unfold wn
    refine List.mem_filter.2 ⟨List.mem_append_right _ List.mem_cons_self, ?_⟩
    rw [Bool.and_eq_true]
    refine ⟨decide_eq_true ?_, decide_eq_true (by show Int.tdiv t' s.g < Int.tdiv t' s.g + 1; omega)⟩
    show frR s.n (Int.tdiv t' s.g) (Int.tdiv t' s.g) ≤ Int.tdiv t' s.g
    unfold frR
    rw [mxR_l (Int.le_refl _)]
    split <;> omega
  have hall : ∀ p ∈ wn (frR s.n (Int.tdiv t' s.g) (Int.tdiv t' s.g)) (Int.tdiv t' s.g + 1) (rs ++ [(Int.tdiv t' s.g, v)]), p.2 = v := fun p hp => all p (List.mem_filter.1 hp).1
  have hl : (wn (frR s.n (Int.tdiv t' s.g) (Int.tdiv t' s.g)) (Int.tdiv t' s.g + 1) (rs ++ [(Int.tdiv t' s.g, v)])).length ≤ m + 1 := by
    refine Nat.le_trans (List.length_filter_le _ _) ?_
    rw [List.length_append]; show rs.length + 1 ≤ m + 1; omega
  revert s1 s2 hmem hall hl
  generalize wn (frR s.n (Int.tdiv t' s.g) (Int.tdiv t' s.g)) (Int.tdiv t' s.g + 1) (rs ++ [(Int.tdiv t' s.g, v)]) = w
  intro s1 s2 hmem hall hl
  have hw : 1 ≤ w.length := List.length_pos_of_mem hmem
  have hsv := sv_con hall
  have b1 : (w.length : Int) * v ≤ 100000 * 1000000000 := Int.mul_le_mul (by omega) v1 v0 (by omega)
  have b2 : 0 ≤ (w.length : Int) * v := Int.mul_nonneg (by omega) v0
  rw [hsv, cut_small b2 (by omega)] at s1
  unfold RS.mean mnV
  rw [s1, s2]
  rw [show ((w.length : Int) == 0) = false by rw [beq_eq_false_iff_ne]; omega]
  show wI (Int.tdiv ((w.length : Int) * v) (w.length : Int)) = v
  rw [Int.mul_tdiv_cancel_left v (by omega)]
  exact wrap64_in (by omega) (by omega)
/-- a decider under the load v -/
structure DcV (d : DcS) (v : Int) (m : Nat) (t : Int) : Prop where
  g : DcG d m
  s : RCv d.s v m t
  q : RCv d.q v m t
  la : d.la = t
theorem DcV.new {c : Conf.Cf} (hm : Conf.mayB c = true) (v : Int) : DcV (DcS.new c) v 0 0 := by
  have may := Conf.may_of hm
  have h1 := may.grain
  have h2 := may.panic
  have h3 := may.stable
  exact ⟨(DcR.new hm 0).g, RCv.new (by omega) (by omega) (by omega), RCv.new (by omega) (by omega) (by omega), rfl⟩
/-- one tick of the load -/
theorem DcV.tick {d : DcS} {v : Int} {m : Nat} {t : Int} (h : DcV d v m t) (hm : m < 90000) (t0 : 0 ≤ t) (t1 : t < 1000000) (v0 : 0 ≤ v) (v1 : v ≤ 1000000000) {r : Int} (r0 : 0 ≤ r) (r1 : r ≤ 100) :
    Dly.pB (okP17 d (t + 1) v) = true ∧ Dly.pB (okN17 (d.put (t + 1) v) (t + 1) r) = true ∧ (d.put (t + 1) v).s.mean (t + 1) = v ∧ (d.put (t + 1) v).q.mean (t + 1) = v ∧ DcG (d.put (t + 1) v) m ∧ ∀ b, DcV (nxD b (d.put (t + 1) v) (t + 1) r) v (m + 1) (t + 1) := by
  obtain ⟨a1, a2⟩ := h.s.put (t' := t + 1) (by omega) t0 (by omega) (by omega) v0 v1
  obtain ⟨b1, b2⟩ := h.q.put (t' := t + 1) (by omega) t0 (by omega) (by omega) v0 v1
  obtain ⟨rs1, x1, x2, _⟩ := h.s.h
  obtain ⟨rs2, y1, y2, _⟩ := h.q.h
  obtain ⟨rs3, z1, _⟩ := a1.h
  obtain ⟨rs4, z2, _⟩ := b1.h
  have la := h.la
  have g1 : DcG (d.put (t + 1) v) m := ⟨h.g.may, ⟨_, z1⟩, ⟨_, z2⟩, h.g.sp0, h.g.sp1, h.g.n, h.g.n1, h.g.h, h.g.si, h.g.sl, h.g.la, h.g.al⟩
  have ba : badA17 (d.put (t + 1) v) (t + 1) r = false := badA17_false (by show d.la ≤ t + 1; omega) (by omega) r0 r1
  refine ⟨Dly.pB_is ⟨badA_false.2 ⟨by omega, by omega, v0⟩, by omega, ⟨rs1, x1, by omega⟩, rs2, y1, by omega⟩, Dly.pB_is ⟨g1.mono (by omega), ba⟩, a2, b2, g1, fun b => ⟨g1.next (by omega) ba b, a1.sum (by omega) (by omega), b1.sum (by omega) (by omega), rfl⟩⟩
end Go.Proofs.YtebibmioiigplaaGreat.Dec

/- Layer 26: Run: its rounds. -/
namespace Go.Proofs.YtebibmioiigplaaGreat.Dec
open Go.Eng Go.RowKit Mil Rin
set_option linter.unusedVariables false
set_option linter.unusedSimpArgs false
set_option maxRecDepth 100000
noncomputable def dcn (b : Bool) (d : DcS) (t r : Int) : Dcn := (t, d.s.mean t, d.q.mean t, nxW b d t r, decide (0 ≤ (nxK b d t r).since), Conf.excB d.c r (d.q.mean t))
noncomputable def rnO (b : Bool) (d : DcS) (o : List Dcn) (t r i : Int) : List Dcn := o.set (0 + i.toNat) (dcn b d t r)
noncomputable def rnR (b : Bool) (d : DcS) (o : List Dcn) (t r i : Int) : Int := ((rnO b d o t r i).getD (0 + i.toNat) (0, 0, 0, 0, false, 0)).2.2.2.1
theorem wayRu (b : Bool) (v : Int) (k : Nat) (r0 : Int) (d : DcS) (o : List Dcn) (r i : Int) : T.path [true, true, true, b, true, true, true, true] (rdRu (pRu v k r0 d.c) (stRu d o r i)) =
    some ([(decide (i < (k : Int)), true), (Dly.pB (okP17 d (wI (i + 1)) v), true), (Dly.pB (okN17 (d.put (wI (i + 1)) v) (wI (i + 1)) r), true), (decide (0 ≤ (nxM (d.put (wI (i + 1)) v) (wI (i + 1)) r).since), b), (idR o k i, true), (ldR o i, true), (idR (rnO b (d.put (wI (i + 1)) v) o (wI (i + 1)) r i) k i, true), (ldR (rnO b (d.put (wI (i + 1)) v) o (wI (i + 1)) r i) i, true)],
      (.normal, FRu (pRu v k r0 d.c) (stRu (nxD b (d.put (wI (i + 1)) v) (wI (i + 1)) r) (rnO b (d.put (wI (i + 1)) v) o (wI (i + 1)) r i) (rnR b (d.put (wI (i + 1)) v) o (wI (i + 1)) r i) (wI (i + 1))))) := by cases b <;> kernel_rfl
theorem wayRux (p : PRu) (a : ARu) : T.path [false] (rdRu p a) = some ([(decide (a.i < p.n), false)], (.exit 0, FRu p a)) := by kernel_rfl
end Go.Proofs.YtebibmioiigplaaGreat.Dec

/- Layer 26: Run: its contract. -/
namespace Go.Proofs.YtebibmioiigplaaGreat.Dec
open Go.Eng Go.RowKit Mil Rin
set_option linter.unusedVariables false
set_option linter.unusedSimpArgs false
set_option maxRecDepth 100000
noncomputable def tkB (d : DcS) (v t r : Int) : Bool := decide (0 ≤ (nxM (d.put t v) t r).since)
/-- the decider and who is ready, behind k ticks of the load v -/
noncomputable def seqD (v : Int) (c : Conf.Cf) (r0 : Int) : Nat → DcS × Int
  | 0 => (DcS.new c, r0)
  | k + 1 => (nxD (tkB (seqD v c r0 k).1 v ((k : Int) + 1) (seqD v c r0 k).2) ((seqD v c r0 k).1.put ((k : Int) + 1) v) ((k : Int) + 1) (seqD v c r0 k).2, nxW (tkB (seqD v c r0 k).1 v ((k : Int) + 1) (seqD v c r0 k).2) ((seqD v c r0 k).1.put ((k : Int) + 1) v) ((k : Int) + 1) (seqD v c r0 k).2)
noncomputable def outD (v : Int) (c : Conf.Cf) (r0 : Int) (k : Nat) : Dcn := dcn (tkB (seqD v c r0 k).1 v ((k : Int) + 1) (seqD v c r0 k).2) ((seqD v c r0 k).1.put ((k : Int) + 1) v) ((k : Int) + 1) (seqD v c r0 k).2
theorem seqD_c (v : Int) (c : Conf.Cf) (r0 : Int) : ∀ k, (seqD v c r0 k).1.c = c
  | 0 => rfl
  | k + 1 => seqD_c v c r0 k
theorem out_want (v : Int) (c : Conf.Cf) (r0 : Int) (k : Nat) : (outD v c r0 k).2.2.2.1 = (seqD v c r0 (k + 1)).2 := rfl
theorem seqD_ok {v : Int} {c : Conf.Cf} {r0 : Int} (hm : Conf.mayB c = true) (v0 : 0 ≤ v) (v1 : v ≤ 1000000000) (h0 : 0 ≤ r0) (h1 : r0 ≤ 100) : ∀ k : Nat, k ≤ 30000 → DcV (seqD v c r0 k).1 v k (k : Int) ∧ 0 ≤ (seqD v c r0 k).2 ∧ (seqD v c r0 k).2 ≤ 100
  | 0, _ => ⟨DcV.new hm v, h0, h1⟩
  | k + 1, hk => by
    obtain ⟨hd, x0, x1⟩ := seqD_ok hm v0 v1 h0 h1 k (by omega)
    obtain ⟨_, _, _, _, g, hn⟩ := hd.tick (by omega) (by omega) (by omega) v0 v1 x0 x1
    have hr := boundI_range hm (nxQ (tkB (seqD v c r0 k).1 v ((k : Int) + 1) (seqD v c r0 k).2) ((seqD v c r0 k).1.put ((k : Int) + 1) v) ((k : Int) + 1) (seqD v c r0 k).2)
    have ms := mostC_range hm
    have mn := (Conf.may_of hm).min
    have e : (seqD v c r0 (k + 1)).2 = boundI c (nxQ (tkB (seqD v c r0 k).1 v ((k : Int) + 1) (seqD v c r0 k).2) ((seqD v c r0 k).1.put ((k : Int) + 1) v) ((k : Int) + 1) (seqD v c r0 k).2) := by
      show boundI (seqD v c r0 k).1.c _ = _
      rw [seqD_c]
    refine ⟨hn _, ?_, ?_⟩
    · rw [e]; omega
    · rw [e]; omega
noncomputable def outs (v : Int) (c : Conf.Cf) (r0 : Int) (k : Nat) : List Dcn := (List.range k).map (outD v c r0)
def z6 : Dcn := (0, 0, 0, 0, false, 0)
noncomputable def rowsU (v : Int) (c : Conf.Cf) (r0 : Int) (n i : Nat) : List Dcn := outs v c r0 i ++ List.replicate (n - i) z6
theorem outs_len (v : Int) (c : Conf.Cf) (r0 : Int) (k : Nat) : (outs v c r0 k).length = k := by unfold outs; simp
theorem rowsU_len {v : Int} {c : Conf.Cf} {r0 : Int} {n i : Nat} (h : i ≤ n) : (rowsU v c r0 n i).length = n := by
  unfold rowsU; rw [List.length_append, outs_len, List.length_replicate]; omega
theorem rowsU_set {v : Int} {c : Conf.Cf} {r0 : Int} {n i : Nat} (h : i < n) : (rowsU v c r0 n i).set i (outD v c r0 i) = rowsU v c r0 n (i + 1) := by
  unfold rowsU
  rw [List.set_append_right i _ (by rw [outs_len]; exact Nat.le_refl _), outs_len, Nat.sub_self, show n - i = (n - (i + 1)) + 1 by omega, List.replicate_succ, List.set_cons_zero]
  unfold outs
  rw [List.range_succ, List.map_append, List.append_assoc]; rfl
def okRu (p : PRu) (a : ARu) : Prop := ∃ (v : Int) (c : Conf.Cf) (k i : Nat) (r0 : Int), p = pRu v k r0 c ∧ a = stRu (seqD v c r0 i).1 (rowsU v c r0 k i) (seqD v c r0 i).2 (i : Int) ∧ Conf.mayB c = true ∧ 0 ≤ v ∧ v ≤ 1000000000 ∧ 0 ≤ r0 ∧ r0 ≤ 100 ∧ i ≤ k ∧ k ≤ 30000
def goRu (p : PRu) (a : ARu) : Bool := decide (a.i < p.n)
def muRu (p : PRu) (a : ARu) : Nat := (p.n - a.i).toNat
theorem stepRu (p : PRu) (a : ARu) (h : okRu p a) (hg : goRu p a = true) : ∃ b, stepC okRu rdRu FRu muRu p a b := by
  obtain ⟨v, c, k, i, r0, rfl, rfl, hm, v0, v1, h0, h1, ik, kn⟩ := h
  have hg0 : decide ((i : Int) < (k : Int)) = true := hg
  have hi := of_decide_eq_true hg0
  have hw : wI ((i : Int) + 1) = (i : Int) + 1 := wrap64_in (by omega) (by omega)
  obtain ⟨hd, x0, x1⟩ := seqD_ok hm v0 v1 h0 h1 i (by omega)
  obtain ⟨t1, t2, _, _, _, hn⟩ := hd.tick (by omega) (by omega) (by omega) v0 v1 x0 x1
  have ln := rowsU_len (v := v) (c := c) (r0 := r0) ik
  obtain ⟨y1, y2⟩ := idR_is (g := rowsU v c r0 k i) (k := k) (i := (i : Int)) ln.symm (by omega) hi
  have ei : 0 + ((i : Int)).toNat = i := by omega
  have e1 : rnO (tkB (seqD v c r0 i).1 v ((i : Int) + 1) (seqD v c r0 i).2) ((seqD v c r0 i).1.put ((i : Int) + 1) v) (rowsU v c r0 k i) ((i : Int) + 1) (seqD v c r0 i).2 (i : Int) = rowsU v c r0 k (i + 1) := by
    unfold rnO
    rw [ei]; exact rowsU_set (by omega)
  have e2 : rnR (tkB (seqD v c r0 i).1 v ((i : Int) + 1) (seqD v c r0 i).2) ((seqD v c r0 i).1.put ((i : Int) + 1) v) (rowsU v c r0 k i) ((i : Int) + 1) (seqD v c r0 i).2 (i : Int) = (seqD v c r0 (i + 1)).2 := by
    unfold rnR rnO
    rw [ei, List.getD_eq_getElem?_getD, List.getElem?_set_self (by rw [ln]; omega)]; rfl
  have l2 := rowsU_len (v := v) (c := c) (r0 := r0) (n := k) (i := i + 1) (by omega)
  obtain ⟨z1, z2⟩ := idR_is (g := rowsU v c r0 k (i + 1)) (k := k) (i := (i : Int)) l2.symm (by omega) hi
  have way := wayRu (tkB (seqD v c r0 i).1 v ((i : Int) + 1) (seqD v c r0 i).2) v k r0 (seqD v c r0 i).1 (rowsU v c r0 k i) (seqD v c r0 i).2 (i : Int)
  rw [hw, e1, e2, seqD_c] at way
  refine ⟨_, T.path_eval way ⟨hg0, t1, t2, rfl, y1, y2, z1, z2, trivial⟩, ⟨v, c, k, i + 1, r0, rfl, ?_, hm, v0, v1, h0, h1, by omega, kn⟩, ?_⟩
  · rfl
  · show ((k : Int) - ((i : Int) + 1)).toNat < ((k : Int) - (i : Int)).toNat; omega
theorem exRu (p : PRu) (a : ARu) (h : okRu p a) (hg : goRu p a = false) : (rdRu p a).eval = some (.exit 0, FRu p a) := T.path_eval (wayRux p a) ⟨hg, trivial⟩
noncomputable def famRu : LSpec := famC [1,2,11,12,37,38] SRu 2000 2020 64 decRu okRu goRu rdRu FRu muRu (.exit 0)
theorem lpRu_ok : LoopOk SR lpRu famRu := famC_ok (vs := vsRu) (bs := bsRu) SR_ok mixed (noLoops_ok _) decRu_ok (by simp) (fun _ _ => rfl) (fun _ _ => rfl) stepRu exRu
noncomputable def runE : Eng.Obj := execO SR (byReg [(rgRu, famRu)]) 17
theorem runE_ok : ObjOk Tryz.prog 17 runE := execO_loops SR_ok mixed Tryz.func17 (by kernel_rfl) (by kernel_rfl) (one_lp (by kernel_rfl) rgRu_is lpRu_ok)
end Go.Proofs.YtebibmioiigplaaGreat.Dec

/- Layer 26: Run: its contract. -/
namespace Go.Proofs.YtebibmioiigplaaGreat.Dec
open Go.Eng Go.RowKit Mil Rin
set_option linter.unusedVariables false
set_option linter.unusedSimpArgs false
set_option maxRecDepth 100000
def cpI (a hi : Int) : Int := if hi < (if 0 > a then 0 else a) then hi else (if 0 > a then 0 else a)
theorem cpI_range (a : Int) {hi : Int} (h : 0 ≤ hi) : 0 ≤ cpI a hi ∧ cpI a hi ≤ hi := by unfold cpI; repeat' split
                                                                                         all_goals omega
abbrev KD6 : List K := [.int .i64, .int .i64, .int .i64, .int .i64, .bool, .int .i64]
noncomputable def runS : Eng.Obj
  | [.agg [.s (.int .i64 ctarget), .s (.int .i64 cutil), .s (.int .i64 cstable), .s (.int .i64 cpanic), .s (.int .i64 cgrain), .s (.int .i64 cthreshold), .s (.int .i64 cup), .s (.int .i64 cdown), .s (.int .i64 cmin), .s (.int .i64 cmax), .s (.int .i64 cinitial), .s (.int .i64 cgrace), .s (.int .i64 cdelay), .s (.int .i64 cburst), .s (.int .i64 climit), .s (.int .i64 cqueue), .s (.int .i64 ctimeout), .s (.int .i64 cready), .s (.int .i64 csubset), .s (.int .i64 csample)], .s (.int .i64 v), .s (.int .i64 r), .s (.int .i64 n)], [] => .ite none (Conf.mayB ⟨ctarget, cutil, cstable, cpanic, cgrain, cthreshold, cup, cdown, cmin, cmax, cinitial, cgrace, cdelay, cburst, climit, cqueue, ctimeout, cready, csubset, csample⟩) (.ret (.sub 40 6 0 (cpI n 30000).toNat, [(40, .lst true 43 KD6 (outs (cpI v 1000000000) ⟨ctarget, cutil, cstable, cpanic, cgrain, cthreshold, cup, cdown, cmin, cmax, cinitial, cgrace, cdelay, cburst, climit, cqueue, ctimeout, cready, csubset, csample⟩ (cpI r 100) (cpI n 30000).toNat))])) (.ret (.sub 32 6 0 0, [(32, .lst true 43 KD6 [])]))
  | _, _ => .fail
noncomputable def eRu (v : Int) (k : Nat) (r : Int) (c : Conf.Cf) : ARu := endW (nxtC okRu goRu rdRu FRu muRu (pRu v k r c)) (stRu (DcS.new c) (List.replicate k z6) r 0)
theorem run_w0 (c : Conf.Cf) (v r n : Int) : T.path [true] (T.anon (runE [.agg (cfL c), Eng.iv v, Eng.iv r, Eng.iv n] [])) = some ([(!Conf.mayB c, true)], (.sub 32 6 0 0, [(32, .lst true 43 KD6 [])])) := by kernel_rfl
theorem run_w1 (c : Conf.Cf) (v r n : Int) (k : Nat) (o : List Dcn) (hk : (cpI n 30000).toNat = k) (ho : (eRu (cpI v 1000000000) k (cpI r 100) c).o = o) : T.path [false, true, true, true] (T.anon (runE [.agg (cfL c), Eng.iv v, Eng.iv r, Eng.iv n] [])) =
    some ([(!Conf.mayB c, false), (Conf.mayB c, true), (decide (0 ≤ cpI n 30000) && (decide (cpI n 30000 ≤ cpI n 30000) && decide (cpI n 30000 ≤ 1000000)), true), (invC okRu (pRu (cpI v 1000000000) k (cpI r 100) c) (stRu (DcS.new c) (List.replicate k z6) (cpI r 100) 0), true)], (.sub 40 6 0 k, [(40, .lst true 43 KD6 o)])) := by subst ho; subst hk; kernel_rfl
theorem pRu_r {v v' : Int} {k k' : Nat} {r r' : Int} {c c' : Conf.Cf} (h : pRu v k r c = pRu v' k' r' c') : v = v' ∧ k = k' ∧ r = r' ∧ c = c' := by
  have e1 : (pRu v k r c).v = (pRu v' k' r' c').v := by rw [h]
  have e2 : (pRu v k r c).k = (pRu v' k' r' c').k := by rw [h]
  have e3 : (pRu v k r c).r0 = (pRu v' k' r' c').r0 := by rw [h]
  refine ⟨e1, e2, e3, ?_⟩
  unfold pRu at h
  injection h with h1 h2 h3 h4 h5 h6 h7 h8 h9 h10 h11 h12 h13 h14 h15 h16 h17 h18 h19 h20 h21 h22 h23 h24
  cases c; cases c'
  simp only at *
  subst h5 h6 h7 h8 h9 h10 h11 h12 h13 h14 h15 h16 h17 h18 h19 h20 h21 h22 h23 h24
  rfl
theorem runS_ok : ObjOk Tryz.prog 17 runS := runE_ok.of_eval fun args h x hv => by
  unfold runS at hv
  split at hv
  · rename_i ctarget cutil cstable cpanic cgrain cthreshold cup cdown cmin cmax cinitial cgrace cdelay cburst climit cqueue ctimeout cready csubset csample v r n
    revert hv
    generalize hc : (⟨ctarget, cutil, cstable, cpanic, cgrain, cthreshold, cup, cdown, cmin, cmax, cinitial, cgrace, cdelay, cburst, climit, cqueue, ctimeout, cready, csubset, csample⟩ : Conf.Cf) = c
    intro hv
    have e : (.agg [.s (.int .i64 ctarget), .s (.int .i64 cutil), .s (.int .i64 cstable), .s (.int .i64 cpanic), .s (.int .i64 cgrain), .s (.int .i64 cthreshold), .s (.int .i64 cup), .s (.int .i64 cdown), .s (.int .i64 cmin), .s (.int .i64 cmax), .s (.int .i64 cinitial), .s (.int .i64 cgrace), .s (.int .i64 cdelay), .s (.int .i64 cburst), .s (.int .i64 climit), .s (.int .i64 cqueue), .s (.int .i64 ctimeout), .s (.int .i64 cready), .s (.int .i64 csubset), .s (.int .i64 csample)] : V) = .agg (cfL c) := by rw [← hc]; rfl
    rw [e]
    rw [← T.eval_anon (t := runE _ _)]
    cases hm : Conf.mayB c with
    | false =>
      obtain rfl := Option.some.inj (ite_F hv hm)
      exact T.path_eval (run_w0 c v r n) ⟨by rw [hm]; rfl, trivial⟩
    | true =>
      obtain rfl := Option.some.inj (ite_T hv hm)
      have hn := cpI_range n (show (0 : Int) ≤ 30000 by omega)
      have hv := cpI_range v (show (0 : Int) ≤ 1000000000 by omega)
      have hr := cpI_range r (show (0 : Int) ≤ 100 by omega)
      have h0 : okRu (pRu (cpI v 1000000000) (cpI n 30000).toNat (cpI r 100) c) (stRu (DcS.new c) (List.replicate (cpI n 30000).toNat z6) (cpI r 100) 0) := ⟨_, c, _, 0, _, rfl, rfl, hm, hv.1, hv.2, hr.1, hr.2, Nat.zero_le _, by omega⟩
      obtain ⟨k1, k2⟩ := endC stepRu h0
      have k1 : okRu (pRu (cpI v 1000000000) (cpI n 30000).toNat (cpI r 100) c) (eRu (cpI v 1000000000) (cpI n 30000).toNat (cpI r 100) c) := k1
      have k2 : decide ((eRu (cpI v 1000000000) (cpI n 30000).toNat (cpI r 100) c).i < ((cpI n 30000).toNat : Int)) = false := k2
      obtain ⟨v', c', k', i, r', hp, ha, _, _, _, _, _, ik, _⟩ := k1
      obtain ⟨rfl, rfl, rfl, rfl⟩ := pRu_r hp
      rw [ha] at k2
      have k2 : ¬ (i : Int) < ((cpI n 30000).toNat : Int) := of_decide_eq_false k2
      have ei : i = (cpI n 30000).toNat := by omega
      subst ei
      have eo : (eRu (cpI v 1000000000) (cpI n 30000).toNat (cpI r 100) c).o = outs (cpI v 1000000000) c (cpI r 100) (cpI n 30000).toNat := by
        rw [ha]
        show rowsU _ _ _ _ _ = _
        unfold rowsU
        rw [Nat.sub_self, List.replicate_zero, List.append_nil]
      refine T.path_eval (run_w1 c v r n _ _ rfl eo) ⟨by rw [hm]; rfl, hm, ?_, invC_is h0, trivial⟩
      rw [decide_eq_true hn.1, decide_eq_true (Int.le_refl _), decide_eq_true (show cpI n 30000 ≤ 1000000 by omega)]; rfl
  · cases hv
end Go.Proofs.YtebibmioiigplaaGreat.Dec

