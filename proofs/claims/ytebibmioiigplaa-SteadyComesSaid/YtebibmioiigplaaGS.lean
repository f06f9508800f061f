import Derived.Test.YtebibmioiigplaaGR
/- Layer 17: DecideTwice: the loop. -/
namespace Go.Proofs.Ytebibmioiigplaa.Dec
open Go.Eng Go.RowKit Mil Rin
set_option linter.unusedVariables false
set_option linter.unusedSimpArgs false
set_option maxRecDepth 100000
noncomputable def lpTw : Code := loopAt Try.prog 13 0
structure PTw where (k : Nat) (o : List Int) (k2 : Nat) (o2 : List Int) (ctargetA : Int) (cutilA : Int) (cstableA : Int) (cpanicA : Int) (cgrainA : Int) (cthresholdA : Int) (cupA : Int) (cdownA : Int) (cminA : Int) (cmaxA : Int) (cinitialA : Int) (cgraceA : Int) (cdelayA : Int) (cburstA : Int) (climitA : Int) (cqueueA : Int) (ctimeoutA : Int) (creadyA : Int) (csubsetA : Int) (csampleA : Int) (ctargetB : Int) (cutilB : Int) (cstableB : Int) (cpanicB : Int) (cgrainB : Int) (cthresholdB : Int) (cupB : Int) (cdownB : Int) (cminB : Int) (cmaxB : Int) (cinitialB : Int) (cgraceB : Int) (cdelayB : Int) (cburstB : Int) (climitB : Int) (cqueueB : Int) (ctimeoutB : Int) (creadyB : Int) (csubsetB : Int) (csampleB : Int)
structure ATw where (gmA : Int) (omA : Bool) (spA : Int) (aA : Int) (nlA : Nat) (w1A : Int) (g1A : Int) (n1A : Nat) (nw1A : Int) (ov1A : Bool) (w2A : Int) (g2A : Int) (n2A : Nat) (nw2A : Int) (ov2A : Bool) (l1A : List OB) (l2A : List OB) (lA : List (Int × Int)) (siA : Int) (moA : Int) (laA : Int) (gmB : Int) (omB : Bool) (spB : Int) (aB : Int) (nlB : Nat) (w1B : Int) (g1B : Int) (n1B : Nat) (nw1B : Int) (ov1B : Bool) (w2B : Int) (g2B : Int) (n2B : Nat) (nw2B : Int) (ov2B : Bool) (l1B : List OB) (l2B : List OB) (lB : List (Int × Int)) (siB : Int) (moB : Int) (laB : Int) (i : Int)
abbrev STw : List (Nat × Src) := [(0, .same), (1, .same), (34, .same), (2000, .path 34 [20]), (2001, .path 34 [21]), (2002, .path 34 [20, 0, 0]), (2003, .path 34 [20, 0, 1]), (2004, .path 34 [20, 0, 0, 2]), (2005, .path 34 [20, 0, 1, 2]), (2006, .path 34 [21, 2]), (50, .same), (2010, .path 50 [20]), (2011, .path 50 [21]), (2012, .path 50 [20, 0, 0]), (2013, .path 50 [20, 0, 1]), (2014, .path 50 [20, 0, 0, 2]), (2015, .path 50 [20, 0, 1, 2]), (2016, .path 50 [21, 2])]
def vsTw (p : PTw) (a : ATw) : List V := [.sub 0 1 0 p.k, .sub 1 1 0 p.k2, .ptr 34 0, .ptr 50 0, iv a.i]
def bsTw (p : PTw) (a : ATw) : List Blk := [.lst false 2 [.int .i64] p.o, .lst false 3 [.int .i64] p.o2, .cells 162 [iv p.ctargetA, iv p.cutilA, iv p.cstableA, iv p.cpanicA, iv p.cgrainA, iv p.cthresholdA, iv p.cupA, iv p.cdownA, iv p.cminA, iv p.cmaxA, iv p.cinitialA, iv p.cgraceA, iv p.cdelayA, iv p.cburstA, iv p.climitA, iv p.cqueueA, iv p.ctimeoutA, iv p.creadyA, iv p.csubsetA, iv p.csampleA, .ptr 2000 0, .ptr 2001 0, iv a.siA, iv a.moA, iv a.laA], .cells 145 [.iface 142 (.agg [.ptr 2002 0, .ptr 2003 0]), iv a.gmA, bv a.omA], .cells 153 [iv a.spA, iv a.aA, .sub 2006 2 0 a.nlA], .cells 123 [iv a.w1A, iv a.g1A, .sub 2004 1 0 a.n1A, iv a.nw1A, bv a.ov1A], .cells 123 [iv a.w2A, iv a.g2A, .sub 2005 1 0 a.n2A, iv a.nw2A, bv a.ov2A], .bx 20 126 130 [.int .i64, .int .i64, .bool] a.l1A [] none, .bx 20 126 130 [.int .i64, .int .i64, .bool] a.l2A [] none, .lst true 158 [.int .i64, .int .i64] a.lA, .cells 162 [iv p.ctargetB, iv p.cutilB, iv p.cstableB, iv p.cpanicB, iv p.cgrainB, iv p.cthresholdB, iv p.cupB, iv p.cdownB, iv p.cminB, iv p.cmaxB, iv p.cinitialB, iv p.cgraceB, iv p.cdelayB, iv p.cburstB, iv p.climitB, iv p.cqueueB, iv p.ctimeoutB, iv p.creadyB, iv p.csubsetB, iv p.csampleB, .ptr 2010 0, .ptr 2011 0, iv a.siB, iv a.moB, iv a.laB], .cells 145 [.iface 142 (.agg [.ptr 2012 0, .ptr 2013 0]), iv a.gmB, bv a.omB], .cells 153 [iv a.spB, iv a.aB, .sub 2016 2 0 a.nlB], .cells 123 [iv a.w1B, iv a.g1B, .sub 2014 1 0 a.n1B, iv a.nw1B, bv a.ov1B], .cells 123 [iv a.w2B, iv a.g2B, .sub 2015 1 0 a.n2B, iv a.nw2B, bv a.ov2B], .bx 20 126 130 [.int .i64, .int .i64, .bool] a.l1B [] none, .bx 20 126 130 [.int .i64, .int .i64, .bool] a.l2B [] none, .lst true 158 [.int .i64, .int .i64] a.lB]
noncomputable def FTw (p : PTw) (a : ATw) : St := mkSt [1,2,7,8,9] (keysR STw) 2020 108 (vsTw p a) (bsTw p a)
noncomputable def rdTw (p : PTw) (a : ATw) : T (Ex × St) := T.anon (roundN DL noLoops lpTw [1,2,7,8,9] STw 2000 2020 (mkSt [1,2,7,8,9] (keysR STw) 2020 108 (vsTw p a) (bsTw p a)))
def decTw_v0 : V → Option ((Nat))
  | .sub 0 1 0 k => some (k)
  | _ => none
theorem decTw_v0_ok (b : V) (x0 : (Nat)) (h : decTw_v0 b = some x0) : b = .sub 0 1 0 (x0) := by
  unfold decTw_v0 at h
  split at h
  · cases h
    rfl
  · cases h
def decTw_v1 : V → Option ((Nat))
  | .sub 1 1 0 k2 => some (k2)
  | _ => none
theorem decTw_v1_ok (b : V) (x1 : (Nat)) (h : decTw_v1 b = some x1) : b = .sub 1 1 0 (x1) := by
  unfold decTw_v1 at h
  split at h
  · cases h
    rfl
  · cases h
def decTw_v2 : V → Option (Unit)
  | .ptr 34 0 => some ()
  | _ => none
theorem decTw_v2_ok (b : V) (x2 : Unit) (h : decTw_v2 b = some x2) : b = .ptr 34 0 := by
  unfold decTw_v2 at h
  split at h
  · cases h
    rfl
  · cases h
def decTw_v3 : V → Option (Unit)
  | .ptr 50 0 => some ()
  | _ => none
theorem decTw_v3_ok (b : V) (x3 : Unit) (h : decTw_v3 b = some x3) : b = .ptr 50 0 := by
  unfold decTw_v3 at h
  split at h
  · cases h
    rfl
  · cases h
def decTw_v4 : V → Option ((Int))
  | .s (.int .i64 i) => some (i)
  | _ => none
theorem decTw_v4_ok (b : V) (x4 : (Int)) (h : decTw_v4 b = some x4) : b = iv (x4) := by
  unfold decTw_v4 at h
  split at h
  · cases h
    rfl
  · cases h
def decTw_b0 : Blk → Option ((List Int))
  | .lst false tt0 [.int .i64] o => if tt0 = 2 then some (o) else none
  | _ => none
theorem decTw_b0_ok (b : Blk) (y0 : (List Int)) (h : decTw_b0 b = some y0) : b = .lst false 2 [.int .i64] (y0) := by
  unfold decTw_b0 at h
  split at h
  · obtain ⟨e0, h⟩ := ite_some0 h
    subst e0
    cases h
    rfl
  · cases h
def decTw_b1 : Blk → Option ((List Int))
  | .lst false tt0 [.int .i64] o2 => if tt0 = 3 then some (o2) else none
  | _ => none
theorem decTw_b1_ok (b : Blk) (y1 : (List Int)) (h : decTw_b1 b = some y1) : b = .lst false 3 [.int .i64] (y1) := by
  unfold decTw_b1 at h
  split at h
  · obtain ⟨e0, h⟩ := ite_some0 h
    subst e0
    cases h
    rfl
  · cases h
def decTw_b2 : Blk → Option ((Int) × (Int) × (Int) × (Int) × (Int) × (Int) × (Int) × (Int) × (Int) × (Int) × (Int) × (Int) × (Int) × (Int) × (Int) × (Int) × (Int) × (Int) × (Int) × (Int) × (Int) × (Int) × (Int))
  | .cells tt0 [.s (.int .i64 ctargetA), .s (.int .i64 cutilA), .s (.int .i64 cstableA), .s (.int .i64 cpanicA), .s (.int .i64 cgrainA), .s (.int .i64 cthresholdA), .s (.int .i64 cupA), .s (.int .i64 cdownA), .s (.int .i64 cminA), .s (.int .i64 cmaxA), .s (.int .i64 cinitialA), .s (.int .i64 cgraceA), .s (.int .i64 cdelayA), .s (.int .i64 cburstA), .s (.int .i64 climitA), .s (.int .i64 cqueueA), .s (.int .i64 ctimeoutA), .s (.int .i64 creadyA), .s (.int .i64 csubsetA), .s (.int .i64 csampleA), .ptr 2000 0, .ptr 2001 0, .s (.int .i64 siA), .s (.int .i64 moA), .s (.int .i64 laA)] => if tt0 = 162 then some (ctargetA, cutilA, cstableA, cpanicA, cgrainA, cthresholdA, cupA, cdownA, cminA, cmaxA, cinitialA, cgraceA, cdelayA, cburstA, climitA, cqueueA, ctimeoutA, creadyA, csubsetA, csampleA, siA, moA, laA) else none
  | _ => none
theorem decTw_b2_ok (b : Blk) (y2 : (Int) × (Int) × (Int) × (Int) × (Int) × (Int) × (Int) × (Int) × (Int) × (Int) × (Int) × (Int) × (Int) × (Int) × (Int) × (Int) × (Int) × (Int) × (Int) × (Int) × (Int) × (Int) × (Int)) (h : decTw_b2 b = some y2) : b = .cells 162 [iv (y2.1), iv (y2.2.1), iv (y2.2.2.1), iv (y2.2.2.2.1), iv (y2.2.2.2.2.1), iv (y2.2.2.2.2.2.1), iv (y2.2.2.2.2.2.2.1), iv (y2.2.2.2.2.2.2.2.1), iv (y2.2.2.2.2.2.2.2.2.1), iv (y2.2.2.2.2.2.2.2.2.2.1), iv (y2.2.2.2.2.2.2.2.2.2.2.1), iv (y2.2.2.2.2.2.2.2.2.2.2.2.1), iv (y2.2.2.2.2.2.2.2.2.2.2.2.2.1), iv (y2.2.2.2.2.2.2.2.2.2.2.2.2.2.1), iv (y2.2.2.2.2.2.2.2.2.2.2.2.2.2.2.1), iv (y2.2.2.2.2.2.2.2.2.2.2.2.2.2.2.2.1), iv (y2.2.2.2.2.2.2.2.2.2.2.2.2.2.2.2.2.1), iv (y2.2.2.2.2.2.2.2.2.2.2.2.2.2.2.2.2.2.1), iv (y2.2.2.2.2.2.2.2.2.2.2.2.2.2.2.2.2.2.2.1), iv (y2.2.2.2.2.2.2.2.2.2.2.2.2.2.2.2.2.2.2.2.1), .ptr 2000 0, .ptr 2001 0, iv (y2.2.2.2.2.2.2.2.2.2.2.2.2.2.2.2.2.2.2.2.2.1), iv (y2.2.2.2.2.2.2.2.2.2.2.2.2.2.2.2.2.2.2.2.2.2.1), iv (y2.2.2.2.2.2.2.2.2.2.2.2.2.2.2.2.2.2.2.2.2.2.2)] := by
  unfold decTw_b2 at h
  split at h
  · obtain ⟨e0, h⟩ := ite_some0 h
    subst e0
    cases h
    rfl
  · cases h
def decTw_b3 : Blk → Option ((Int) × (Bool))
  | .cells tt0 [.iface tt1 (.agg [.ptr 2002 0, .ptr 2003 0]), .s (.int .i64 gmA), .s (.bool omA)] => if tt0 = 145 then if tt1 = 142 then some (gmA, omA) else none else none
  | _ => none
theorem decTw_b3_ok (b : Blk) (y3 : (Int) × (Bool)) (h : decTw_b3 b = some y3) : b = .cells 145 [.iface 142 (.agg [.ptr 2002 0, .ptr 2003 0]), iv (y3.1), bv (y3.2)] := by
  unfold decTw_b3 at h
  split at h
  · obtain ⟨e0, h⟩ := ite_some0 h
    obtain ⟨e1, h⟩ := ite_some0 h
    subst e0 e1
    cases h
    rfl
  · cases h
def decTw_b4 : Blk → Option ((Int) × (Int) × (Nat))
  | .cells tt0 [.s (.int .i64 spA), .s (.int .i64 aA), .sub 2006 2 0 nlA] => if tt0 = 153 then some (spA, aA, nlA) else none
  | _ => none
theorem decTw_b4_ok (b : Blk) (y4 : (Int) × (Int) × (Nat)) (h : decTw_b4 b = some y4) : b = .cells 153 [iv (y4.1), iv (y4.2.1), .sub 2006 2 0 (y4.2.2)] := by
  unfold decTw_b4 at h
  split at h
  · obtain ⟨e0, h⟩ := ite_some0 h
    subst e0
    cases h
    rfl
  · cases h
def decTw_b5 : Blk → Option ((Int) × (Int) × (Nat) × (Int) × (Bool))
  | .cells tt0 [.s (.int .i64 w1A), .s (.int .i64 g1A), .sub 2004 1 0 n1A, .s (.int .i64 nw1A), .s (.bool ov1A)] => if tt0 = 123 then some (w1A, g1A, n1A, nw1A, ov1A) else none
  | _ => none
theorem decTw_b5_ok (b : Blk) (y5 : (Int) × (Int) × (Nat) × (Int) × (Bool)) (h : decTw_b5 b = some y5) : b = .cells 123 [iv (y5.1), iv (y5.2.1), .sub 2004 1 0 (y5.2.2.1), iv (y5.2.2.2.1), bv (y5.2.2.2.2)] := by
  unfold decTw_b5 at h
  split at h
  · obtain ⟨e0, h⟩ := ite_some0 h
    subst e0
    cases h
    rfl
  · cases h
def decTw_b6 : Blk → Option ((Int) × (Int) × (Nat) × (Int) × (Bool))
  | .cells tt0 [.s (.int .i64 w2A), .s (.int .i64 g2A), .sub 2005 1 0 n2A, .s (.int .i64 nw2A), .s (.bool ov2A)] => if tt0 = 123 then some (w2A, g2A, n2A, nw2A, ov2A) else none
  | _ => none
theorem decTw_b6_ok (b : Blk) (y6 : (Int) × (Int) × (Nat) × (Int) × (Bool)) (h : decTw_b6 b = some y6) : b = .cells 123 [iv (y6.1), iv (y6.2.1), .sub 2005 1 0 (y6.2.2.1), iv (y6.2.2.2.1), bv (y6.2.2.2.2)] := by
  unfold decTw_b6 at h
  split at h
  · obtain ⟨e0, h⟩ := ite_some0 h
    subst e0
    cases h
    rfl
  · cases h
def decTw_b7 : Blk → Option ((List OB))
  | .bx tt0 tt1 tt2 [.int .i64, .int .i64, .bool] l1A [] none => if tt0 = 20 then if tt1 = 126 then if tt2 = 130 then some (l1A) else none else none else none
  | _ => none
theorem decTw_b7_ok (b : Blk) (y7 : (List OB)) (h : decTw_b7 b = some y7) : b = .bx 20 126 130 [.int .i64, .int .i64, .bool] (y7) [] none := by
  unfold decTw_b7 at h
  split at h
  · obtain ⟨e0, h⟩ := ite_some0 h
    obtain ⟨e1, h⟩ := ite_some0 h
    obtain ⟨e2, h⟩ := ite_some0 h
    subst e0 e1 e2
    cases h
    rfl
  · cases h
def decTw_b8 : Blk → Option ((List OB))
  | .bx tt0 tt1 tt2 [.int .i64, .int .i64, .bool] l2A [] none => if tt0 = 20 then if tt1 = 126 then if tt2 = 130 then some (l2A) else none else none else none
  | _ => none
theorem decTw_b8_ok (b : Blk) (y8 : (List OB)) (h : decTw_b8 b = some y8) : b = .bx 20 126 130 [.int .i64, .int .i64, .bool] (y8) [] none := by
  unfold decTw_b8 at h
  split at h
  · obtain ⟨e0, h⟩ := ite_some0 h
    obtain ⟨e1, h⟩ := ite_some0 h
    obtain ⟨e2, h⟩ := ite_some0 h
    subst e0 e1 e2
    cases h
    rfl
  · cases h
def decTw_b9 : Blk → Option ((List (Int × Int)))
  | .lst true tt0 [.int .i64, .int .i64] lA => if tt0 = 158 then some (lA) else none
  | _ => none
theorem decTw_b9_ok (b : Blk) (y9 : (List (Int × Int))) (h : decTw_b9 b = some y9) : b = .lst true 158 [.int .i64, .int .i64] (y9) := by
  unfold decTw_b9 at h
  split at h
  · obtain ⟨e0, h⟩ := ite_some0 h
    subst e0
    cases h
    rfl
  · cases h
def decTw_b10 : Blk → Option ((Int) × (Int) × (Int) × (Int) × (Int) × (Int) × (Int) × (Int) × (Int) × (Int) × (Int) × (Int) × (Int) × (Int) × (Int) × (Int) × (Int) × (Int) × (Int) × (Int) × (Int) × (Int) × (Int))
  | .cells tt0 [.s (.int .i64 ctargetB), .s (.int .i64 cutilB), .s (.int .i64 cstableB), .s (.int .i64 cpanicB), .s (.int .i64 cgrainB), .s (.int .i64 cthresholdB), .s (.int .i64 cupB), .s (.int .i64 cdownB), .s (.int .i64 cminB), .s (.int .i64 cmaxB), .s (.int .i64 cinitialB), .s (.int .i64 cgraceB), .s (.int .i64 cdelayB), .s (.int .i64 cburstB), .s (.int .i64 climitB), .s (.int .i64 cqueueB), .s (.int .i64 ctimeoutB), .s (.int .i64 creadyB), .s (.int .i64 csubsetB), .s (.int .i64 csampleB), .ptr 2010 0, .ptr 2011 0, .s (.int .i64 siB), .s (.int .i64 moB), .s (.int .i64 laB)] => if tt0 = 162 then some (ctargetB, cutilB, cstableB, cpanicB, cgrainB, cthresholdB, cupB, cdownB, cminB, cmaxB, cinitialB, cgraceB, cdelayB, cburstB, climitB, cqueueB, ctimeoutB, creadyB, csubsetB, csampleB, siB, moB, laB) else none
  | _ => none
theorem decTw_b10_ok (b : Blk) (y10 : (Int) × (Int) × (Int) × (Int) × (Int) × (Int) × (Int) × (Int) × (Int) × (Int) × (Int) × (Int) × (Int) × (Int) × (Int) × (Int) × (Int) × (Int) × (Int) × (Int) × (Int) × (Int) × (Int)) (h : decTw_b10 b = some y10) : b = .cells 162 [iv (y10.1), iv (y10.2.1), iv (y10.2.2.1), iv (y10.2.2.2.1), iv (y10.2.2.2.2.1), iv (y10.2.2.2.2.2.1), iv (y10.2.2.2.2.2.2.1), iv (y10.2.2.2.2.2.2.2.1), iv (y10.2.2.2.2.2.2.2.2.1), iv (y10.2.2.2.2.2.2.2.2.2.1), iv (y10.2.2.2.2.2.2.2.2.2.2.1), iv (y10.2.2.2.2.2.2.2.2.2.2.2.1), iv (y10.2.2.2.2.2.2.2.2.2.2.2.2.1), iv (y10.2.2.2.2.2.2.2.2.2.2.2.2.2.1), iv (y10.2.2.2.2.2.2.2.2.2.2.2.2.2.2.1), iv (y10.2.2.2.2.2.2.2.2.2.2.2.2.2.2.2.1), iv (y10.2.2.2.2.2.2.2.2.2.2.2.2.2.2.2.2.1), iv (y10.2.2.2.2.2.2.2.2.2.2.2.2.2.2.2.2.2.1), iv (y10.2.2.2.2.2.2.2.2.2.2.2.2.2.2.2.2.2.2.1), iv (y10.2.2.2.2.2.2.2.2.2.2.2.2.2.2.2.2.2.2.2.1), .ptr 2010 0, .ptr 2011 0, iv (y10.2.2.2.2.2.2.2.2.2.2.2.2.2.2.2.2.2.2.2.2.1), iv (y10.2.2.2.2.2.2.2.2.2.2.2.2.2.2.2.2.2.2.2.2.2.1), iv (y10.2.2.2.2.2.2.2.2.2.2.2.2.2.2.2.2.2.2.2.2.2.2)] := by
  unfold decTw_b10 at h
  split at h
  · obtain ⟨e0, h⟩ := ite_some0 h
    subst e0
    cases h
    rfl
  · cases h
def decTw_b11 : Blk → Option ((Int) × (Bool))
  | .cells tt0 [.iface tt1 (.agg [.ptr 2012 0, .ptr 2013 0]), .s (.int .i64 gmB), .s (.bool omB)] => if tt0 = 145 then if tt1 = 142 then some (gmB, omB) else none else none
  | _ => none
theorem decTw_b11_ok (b : Blk) (y11 : (Int) × (Bool)) (h : decTw_b11 b = some y11) : b = .cells 145 [.iface 142 (.agg [.ptr 2012 0, .ptr 2013 0]), iv (y11.1), bv (y11.2)] := by
  unfold decTw_b11 at h
  split at h
  · obtain ⟨e0, h⟩ := ite_some0 h
    obtain ⟨e1, h⟩ := ite_some0 h
    subst e0 e1
    cases h
    rfl
  · cases h
def decTw_b12 : Blk → Option ((Int) × (Int) × (Nat))
  | .cells tt0 [.s (.int .i64 spB), .s (.int .i64 aB), .sub 2016 2 0 nlB] => if tt0 = 153 then some (spB, aB, nlB) else none
  | _ => none
theorem decTw_b12_ok (b : Blk) (y12 : (Int) × (Int) × (Nat)) (h : decTw_b12 b = some y12) : b = .cells 153 [iv (y12.1), iv (y12.2.1), .sub 2016 2 0 (y12.2.2)] := by
  unfold decTw_b12 at h
  split at h
  · obtain ⟨e0, h⟩ := ite_some0 h
    subst e0
    cases h
    rfl
  · cases h
def decTw_b13 : Blk → Option ((Int) × (Int) × (Nat) × (Int) × (Bool))
  | .cells tt0 [.s (.int .i64 w1B), .s (.int .i64 g1B), .sub 2014 1 0 n1B, .s (.int .i64 nw1B), .s (.bool ov1B)] => if tt0 = 123 then some (w1B, g1B, n1B, nw1B, ov1B) else none
  | _ => none
theorem decTw_b13_ok (b : Blk) (y13 : (Int) × (Int) × (Nat) × (Int) × (Bool)) (h : decTw_b13 b = some y13) : b = .cells 123 [iv (y13.1), iv (y13.2.1), .sub 2014 1 0 (y13.2.2.1), iv (y13.2.2.2.1), bv (y13.2.2.2.2)] := by
  unfold decTw_b13 at h
  split at h
  · obtain ⟨e0, h⟩ := ite_some0 h
    subst e0
    cases h
    rfl
  · cases h
def decTw_b14 : Blk → Option ((Int) × (Int) × (Nat) × (Int) × (Bool))
  | .cells tt0 [.s (.int .i64 w2B), .s (.int .i64 g2B), .sub 2015 1 0 n2B, .s (.int .i64 nw2B), .s (.bool ov2B)] => if tt0 = 123 then some (w2B, g2B, n2B, nw2B, ov2B) else none
  | _ => none
theorem decTw_b14_ok (b : Blk) (y14 : (Int) × (Int) × (Nat) × (Int) × (Bool)) (h : decTw_b14 b = some y14) : b = .cells 123 [iv (y14.1), iv (y14.2.1), .sub 2015 1 0 (y14.2.2.1), iv (y14.2.2.2.1), bv (y14.2.2.2.2)] := by
  unfold decTw_b14 at h
  split at h
  · obtain ⟨e0, h⟩ := ite_some0 h
    subst e0
    cases h
    rfl
  · cases h
def decTw_b15 : Blk → Option ((List OB))
  | .bx tt0 tt1 tt2 [.int .i64, .int .i64, .bool] l1B [] none => if tt0 = 20 then if tt1 = 126 then if tt2 = 130 then some (l1B) else none else none else none
  | _ => none
theorem decTw_b15_ok (b : Blk) (y15 : (List OB)) (h : decTw_b15 b = some y15) : b = .bx 20 126 130 [.int .i64, .int .i64, .bool] (y15) [] none := by
  unfold decTw_b15 at h
  split at h
  · obtain ⟨e0, h⟩ := ite_some0 h
    obtain ⟨e1, h⟩ := ite_some0 h
    obtain ⟨e2, h⟩ := ite_some0 h
    subst e0 e1 e2
    cases h
    rfl
  · cases h
def decTw_b16 : Blk → Option ((List OB))
  | .bx tt0 tt1 tt2 [.int .i64, .int .i64, .bool] l2B [] none => if tt0 = 20 then if tt1 = 126 then if tt2 = 130 then some (l2B) else none else none else none
  | _ => none
theorem decTw_b16_ok (b : Blk) (y16 : (List OB)) (h : decTw_b16 b = some y16) : b = .bx 20 126 130 [.int .i64, .int .i64, .bool] (y16) [] none := by
  unfold decTw_b16 at h
  split at h
  · obtain ⟨e0, h⟩ := ite_some0 h
    obtain ⟨e1, h⟩ := ite_some0 h
    obtain ⟨e2, h⟩ := ite_some0 h
    subst e0 e1 e2
    cases h
    rfl
  · cases h
def decTw_b17 : Blk → Option ((List (Int × Int)))
  | .lst true tt0 [.int .i64, .int .i64] lB => if tt0 = 158 then some (lB) else none
  | _ => none
theorem decTw_b17_ok (b : Blk) (y17 : (List (Int × Int))) (h : decTw_b17 b = some y17) : b = .lst true 158 [.int .i64, .int .i64] (y17) := by
  unfold decTw_b17 at h
  split at h
  · obtain ⟨e0, h⟩ := ite_some0 h
    subst e0
    cases h
    rfl
  · cases h
def decTw : List V → List Blk → Option (PTw × ATw)
  | [v0, v1, v2, v3, v4], [b0, b1, b2, b3, b4, b5, b6, b7, b8, b9, b10, b11, b12, b13, b14, b15, b16, b17] => (decTw_v0 v0).bind fun x0 => (decTw_v1 v1).bind fun x1 => (decTw_v2 v2).bind fun x2 => (decTw_v3 v3).bind fun x3 => (decTw_v4 v4).bind fun x4 => (decTw_b0 b0).bind fun y0 => (decTw_b1 b1).bind fun y1 => (decTw_b2 b2).bind fun y2 => (decTw_b3 b3).bind fun y3 => (decTw_b4 b4).bind fun y4 => (decTw_b5 b5).bind fun y5 => (decTw_b6 b6).bind fun y6 => (decTw_b7 b7).bind fun y7 => (decTw_b8 b8).bind fun y8 => (decTw_b9 b9).bind fun y9 => (decTw_b10 b10).bind fun y10 => (decTw_b11 b11).bind fun y11 => (decTw_b12 b12).bind fun y12 => (decTw_b13 b13).bind fun y13 => (decTw_b14 b14).bind fun y14 => (decTw_b15 b15).bind fun y15 => (decTw_b16 b16).bind fun y16 => (decTw_b17 b17).bind fun y17 => some (⟨(x0), (y0), (x1), (y1), (y2.1), (y2.2.1), (y2.2.2.1), (y2.2.2.2.1), (y2.2.2.2.2.1), (y2.2.2.2.2.2.1), (y2.2.2.2.2.2.2.1), (y2.2.2.2.2.2.2.2.1), (y2.2.2.2.2.2.2.2.2.1), (y2.2.2.2.2.2.2.2.2.2.1), (y2.2.2.2.2.2.2.2.2.2.2.1), (y2.2.2.2.2.2.2.2.2.2.2.2.1), (y2.2.2.2.2.2.2.2.2.2.2.2.2.1), (y2.2.2.2.2.2.2.2.2.2.2.2.2.2.1), (y2.2.2.2.2.2.2.2.2.2.2.2.2.2.2.1), (y2.2.2.2.2.2.2.2.2.2.2.2.2.2.2.2.1), (y2.2.2.2.2.2.2.2.2.2.2.2.2.2.2.2.2.1), (y2.2.2.2.2.2.2.2.2.2.2.2.2.2.2.2.2.2.1), (y2.2.2.2.2.2.2.2.2.2.2.2.2.2.2.2.2.2.2.1), (y2.2.2.2.2.2.2.2.2.2.2.2.2.2.2.2.2.2.2.2.1), (y10.1), (y10.2.1), (y10.2.2.1), (y10.2.2.2.1), (y10.2.2.2.2.1), (y10.2.2.2.2.2.1), (y10.2.2.2.2.2.2.1), (y10.2.2.2.2.2.2.2.1), (y10.2.2.2.2.2.2.2.2.1), (y10.2.2.2.2.2.2.2.2.2.1), (y10.2.2.2.2.2.2.2.2.2.2.1), (y10.2.2.2.2.2.2.2.2.2.2.2.1), (y10.2.2.2.2.2.2.2.2.2.2.2.2.1), (y10.2.2.2.2.2.2.2.2.2.2.2.2.2.1), (y10.2.2.2.2.2.2.2.2.2.2.2.2.2.2.1), (y10.2.2.2.2.2.2.2.2.2.2.2.2.2.2.2.1), (y10.2.2.2.2.2.2.2.2.2.2.2.2.2.2.2.2.1), (y10.2.2.2.2.2.2.2.2.2.2.2.2.2.2.2.2.2.1), (y10.2.2.2.2.2.2.2.2.2.2.2.2.2.2.2.2.2.2.1), (y10.2.2.2.2.2.2.2.2.2.2.2.2.2.2.2.2.2.2.2.1)⟩, ⟨(y3.1), (y3.2), (y4.1), (y4.2.1), (y4.2.2), (y5.1), (y5.2.1), (y5.2.2.1), (y5.2.2.2.1), (y5.2.2.2.2), (y6.1), (y6.2.1), (y6.2.2.1), (y6.2.2.2.1), (y6.2.2.2.2), (y7), (y8), (y9), (y2.2.2.2.2.2.2.2.2.2.2.2.2.2.2.2.2.2.2.2.2.1), (y2.2.2.2.2.2.2.2.2.2.2.2.2.2.2.2.2.2.2.2.2.2.1), (y2.2.2.2.2.2.2.2.2.2.2.2.2.2.2.2.2.2.2.2.2.2.2), (y11.1), (y11.2), (y12.1), (y12.2.1), (y12.2.2), (y13.1), (y13.2.1), (y13.2.2.1), (y13.2.2.2.1), (y13.2.2.2.2), (y14.1), (y14.2.1), (y14.2.2.1), (y14.2.2.2.1), (y14.2.2.2.2), (y15), (y16), (y17), (y10.2.2.2.2.2.2.2.2.2.2.2.2.2.2.2.2.2.2.2.2.1), (y10.2.2.2.2.2.2.2.2.2.2.2.2.2.2.2.2.2.2.2.2.2.1), (y10.2.2.2.2.2.2.2.2.2.2.2.2.2.2.2.2.2.2.2.2.2.2), (x4)⟩)
  | _, _ => none
theorem decTw_ok (l : List V) (b : List Blk) (d : PTw × ATw) (h : decTw l b = some d) : l = vsTw d.1 d.2 ∧ b = bsTw d.1 d.2 := by
  unfold decTw at h
  split at h
  · obtain ⟨x0, hx0, h⟩ := Option.bind_eq_some_iff.1 h
    obtain ⟨x1, hx1, h⟩ := Option.bind_eq_some_iff.1 h
    obtain ⟨x2, hx2, h⟩ := Option.bind_eq_some_iff.1 h
    obtain ⟨x3, hx3, h⟩ := Option.bind_eq_some_iff.1 h
    obtain ⟨x4, hx4, h⟩ := Option.bind_eq_some_iff.1 h
    obtain ⟨y0, hy0, h⟩ := Option.bind_eq_some_iff.1 h
    obtain ⟨y1, hy1, h⟩ := Option.bind_eq_some_iff.1 h
    obtain ⟨y2, hy2, h⟩ := Option.bind_eq_some_iff.1 h
    obtain ⟨y3, hy3, h⟩ := Option.bind_eq_some_iff.1 h
    obtain ⟨y4, hy4, h⟩ := Option.bind_eq_some_iff.1 h
    obtain ⟨y5, hy5, h⟩ := Option.bind_eq_some_iff.1 h
    obtain ⟨y6, hy6, h⟩ := Option.bind_eq_some_iff.1 h
    obtain ⟨y7, hy7, h⟩ := Option.bind_eq_some_iff.1 h
    obtain ⟨y8, hy8, h⟩ := Option.bind_eq_some_iff.1 h
    obtain ⟨y9, hy9, h⟩ := Option.bind_eq_some_iff.1 h
    obtain ⟨y10, hy10, h⟩ := Option.bind_eq_some_iff.1 h
    obtain ⟨y11, hy11, h⟩ := Option.bind_eq_some_iff.1 h
    obtain ⟨y12, hy12, h⟩ := Option.bind_eq_some_iff.1 h
    obtain ⟨y13, hy13, h⟩ := Option.bind_eq_some_iff.1 h
    obtain ⟨y14, hy14, h⟩ := Option.bind_eq_some_iff.1 h
    obtain ⟨y15, hy15, h⟩ := Option.bind_eq_some_iff.1 h
    obtain ⟨y16, hy16, h⟩ := Option.bind_eq_some_iff.1 h
    obtain ⟨y17, hy17, h⟩ := Option.bind_eq_some_iff.1 h
    have ex0 := decTw_v0_ok _ _ hx0
    have ex1 := decTw_v1_ok _ _ hx1
    have ex2 := decTw_v2_ok _ _ hx2
    have ex3 := decTw_v3_ok _ _ hx3
    have ex4 := decTw_v4_ok _ _ hx4
    have ey0 := decTw_b0_ok _ _ hy0
    have ey1 := decTw_b1_ok _ _ hy1
    have ey2 := decTw_b2_ok _ _ hy2
    have ey3 := decTw_b3_ok _ _ hy3
    have ey4 := decTw_b4_ok _ _ hy4
    have ey5 := decTw_b5_ok _ _ hy5
    have ey6 := decTw_b6_ok _ _ hy6
    have ey7 := decTw_b7_ok _ _ hy7
    have ey8 := decTw_b8_ok _ _ hy8
    have ey9 := decTw_b9_ok _ _ hy9
    have ey10 := decTw_b10_ok _ _ hy10
    have ey11 := decTw_b11_ok _ _ hy11
    have ey12 := decTw_b12_ok _ _ hy12
    have ey13 := decTw_b13_ok _ _ hy13
    have ey14 := decTw_b14_ok _ _ hy14
    have ey15 := decTw_b15_ok _ _ hy15
    have ey16 := decTw_b16_ok _ _ hy16
    have ey17 := decTw_b17_ok _ _ hy17
    cases h
    subst ex0 ex1 ex2 ex3 ex4 ey0 ey1 ey2 ey3 ey4 ey5 ey6 ey7 ey8 ey9 ey10 ey11 ey12 ey13 ey14 ey15 ey16 ey17
    exact ⟨rfl, rfl⟩
  · cases h
noncomputable def rgTw : Nat := (firstReg lpTw).getD 0
theorem rgTw_is : firstReg lpTw = some rgTw := by kernel_rfl
def pTw (c e : Conf.Cf) (o o2 : List Int) : PTw := ⟨o.length, o, o2.length, o2, c.target, c.util, c.stable, c.panic, c.grain, c.threshold, c.up, c.down, c.min, c.max, c.initial, c.grace, c.delay, c.burst, c.limit, c.queue, c.timeout, c.ready, c.subset, c.sample, e.target, e.util, e.stable, e.panic, e.grain, e.threshold, e.up, e.down, e.min, e.max, e.initial, e.grace, e.delay, e.burst, e.limit, e.queue, e.timeout, e.ready, e.subset, e.sample⟩
def aTw (p : PTw) (a : ATw) : DcS := ⟨⟨p.ctargetA, p.cutilA, p.cstableA, p.cpanicA, p.cgrainA, p.cthresholdA, p.cupA, p.cdownA, p.cminA, p.cmaxA, p.cinitialA, p.cgraceA, p.cdelayA, p.cburstA, p.climitA, p.cqueueA, p.ctimeoutA, p.creadyA, p.csubsetA, p.csampleA⟩, a.gmA, a.omA, ⟨a.w1A, a.g1A, a.n1A, a.nw1A, a.ov1A, a.l1A⟩, ⟨a.w2A, a.g2A, a.n2A, a.nw2A, a.ov2A, a.l2A⟩, a.spA, a.aA, a.nlA, a.lA, a.siA, a.moA, a.laA⟩
def bTw (p : PTw) (a : ATw) : DcS := ⟨⟨p.ctargetB, p.cutilB, p.cstableB, p.cpanicB, p.cgrainB, p.cthresholdB, p.cupB, p.cdownB, p.cminB, p.cmaxB, p.cinitialB, p.cgraceB, p.cdelayB, p.cburstB, p.climitB, p.cqueueB, p.ctimeoutB, p.creadyB, p.csubsetB, p.csampleB⟩, a.gmB, a.omB, ⟨a.w1B, a.g1B, a.n1B, a.nw1B, a.ov1B, a.l1B⟩, ⟨a.w2B, a.g2B, a.n2B, a.nw2B, a.ov2B, a.l2B⟩, a.spB, a.aB, a.nlB, a.lB, a.siB, a.moB, a.laB⟩
def stTw (d e : DcS) (i : Int) : ATw := ⟨d.gm, d.om, d.sp, d.a, d.n, d.s.w, d.s.g, d.s.n, d.s.nw, d.s.ov, d.q.w, d.q.g, d.q.n, d.q.nw, d.q.ov, d.s.l, d.q.l, d.l, d.si, d.mo, d.la, e.gm, e.om, e.sp, e.a, e.n, e.s.w, e.s.g, e.s.n, e.s.nw, e.s.ov, e.q.w, e.q.g, e.q.n, e.q.nw, e.q.ov, e.s.l, e.q.l, e.l, e.si, e.mo, e.la, i⟩
end Go.Proofs.Ytebibmioiigplaa.Dec

/- Layer 17: DecideTwice: its rounds. -/
namespace Go.Proofs.Ytebibmioiigplaa.Dec
open Go.Eng Go.RowKit Mil Rin
set_option linter.unusedVariables false
set_option linter.unusedSimpArgs false
set_option maxRecDepth 100000
def vM (l : List Int) (i m : Int) : Int := wI (Int.tmod (IntKind.wrap .u64 (l.getD (0 + i.toNat) 0)) m)
def eqV (t s q w : Int) (p : Bool) (x : Int) (t' s' q' w' : Int) (p' : Bool) (x' : Int) : Bool := t == t' && (s == s' && (q == q' && (w == w' && (p == p' && (x == x' && true)))))
noncomputable def eqD (b b' : Bool) (d e : DcS) (t r : Int) : Bool := eqV t (d.s.mean t) (d.q.mean t) (nxW b d t r) (decide (0 ≤ (nxK b d t r).since)) (Conf.excB d.c r (d.q.mean t)) t (e.s.mean t) (e.q.mean t) (nxW b' e t r) (decide (0 ≤ (nxK b' e t r).since)) (Conf.excB e.c r (e.q.mean t))
noncomputable def neD (b : Bool) (d : DcS) (t r : Int) : Bool := bif (bif !(eqD b b d d t r) then true else (0 : Int) != 0) then true else (0 : Int) != 0
theorem neD_no (b : Bool) (d : DcS) (t r : Int) : neD b d t r = false := by unfold neD eqD eqV; simp
noncomputable def tlTw (b : Bool) (d : DcS) (i v r : Int) : List (Bool × Bool) := [(Dly.pB (okP17 d i v), true), ((0 : Int) != 0, false), (Dly.pB (okP17 d i v), true), ((bif (0 : Int) != 0 then true else (0 : Int) != 0), false), (Dly.pB (okN17 (d.put i v) i r), true), (decide (0 ≤ (nxM (d.put i v) i r).since), b), (Dly.pB (okN17 (d.put i v) i r), true), (decide (0 ≤ (nxM (d.put i v) i r).since), b), (neD b (d.put i v) i r, false)]
def go0 (k : Nat) (i : Int) : Bool := bif decide (i < (k : Int)) then decide (i < 80) else false
theorem wayTw1 (b : Bool) (o o2 : List Int) (d : DcS) (i : Int) : T.path ([true, true, true, true, false, true, true, false] ++ [true, false, true, false, true, b, true, b, false]) (rdTw (pTw d.c d.c o o2) (stTw d d i)) =
    some ([(go0 o.length i, true), (decide (i < (o2.length : Int)), true), (idR o2 o2.length i, true), (ldR o2 i, true), ((101 : Int) == 0, false), (idR o o.length i, true), (ldR o i, true), ((1000000 : Int) == 0, false)] ++ tlTw b d i (vM o i 1000000) (vM o2 i 101), (.normal, FTw (pTw d.c d.c o o2) (stTw (nxD b (d.put i (vM o i 1000000)) i (vM o2 i 101)) (nxD b (d.put i (vM o i 1000000)) i (vM o2 i 101)) (wI (i + 1))))) := by cases b <;> kernel_rfl
theorem wayTw0 (b : Bool) (o o2 : List Int) (d : DcS) (i : Int) : T.path ([true, false, true, true, false] ++ [true, false, true, false, true, b, true, b, false]) (rdTw (pTw d.c d.c o o2) (stTw d d i)) =
    some ([(go0 o.length i, true), (decide (i < (o2.length : Int)), false), (idR o o.length i, true), (ldR o i, true), ((1000000 : Int) == 0, false)] ++ tlTw b d i (vM o i 1000000) 1, (.normal, FTw (pTw d.c d.c o o2) (stTw (nxD b (d.put i (vM o i 1000000)) i 1) (nxD b (d.put i (vM o i 1000000)) i 1) (wI (i + 1))))) := by cases b <;> kernel_rfl
theorem wayTwx (p : PTw) (a : ATw) : T.path [false] (rdTw p a) = some ([(go0 p.k a.i, false)], (.exit 0, FTw p a)) := by kernel_rfl
theorem vM_bd (l : List Int) (i : Int) {m : Int} (hm : 0 < m) (h2 : m ≤ 9223372036854775807) : 0 ≤ vM l i m ∧ vM l i m < m := modI _ hm h2
def okTw (p : PTw) (a : ATw) : Prop := ∃ (d : DcS) (o o2 : List Int) (i : Int), p = pTw d.c d.c o o2 ∧ a = stTw d d i ∧ DcR d 1000000 (2 * i.toNat) ∧ 0 ≤ i ∧ i ≤ 80 ∧ i ≤ o.length ∧ d.la ≤ i
def goTw (p : PTw) (a : ATw) : Bool := go0 p.k a.i
def muTw (p : PTw) (a : ATw) : Nat := (80 - a.i).toNat
/-- Put, then Next -/
theorem DcR.turn {d : DcS} {B : Int} {m : Nat} (h : DcR d B m) (hm : m < 990) {i v r : Int} (h0 : d.la ≤ i) (h1 : i ≤ 1099511627776) (v0 : 0 ≤ v) (v1 : v ≤ B) (hB : B ≤ 1000000000) (r0 : 0 ≤ r) (r1 : r ≤ 100) :
    Dly.pB (okP17 d i v) = true ∧ Dly.pB (okN17 (d.put i v) i r) = true ∧ (∀ b, DcR (nxD b (d.put i v) i r) B (m + 2)) ∧ (0 ≤ (d.put i v).s.mean i ∧ (d.put i v).s.mean i ≤ B) ∧ 0 ≤ (d.put i v).q.mean i ∧ (d.put i v).q.mean i ≤ B := by
  have la := h.g.la
  obtain ⟨c1, p1⟩ := h.put (t := i) (v := v) (by omega) (by omega) h1 v0 v1 (by omega)
  have hb : ((m + 1 : Nat) : Int) * B ≤ 1000 * 1000000000 := Int.mul_le_mul (by omega) (by omega) (by omega) (by omega)
  obtain ⟨c2, p2, q1, q2⟩ := p1.next (t := i) (r := r) (by omega) h0 h1 r0 r1 (by omega) (by omega)
  exact ⟨c1, c2, p2, q1, q2⟩
theorem stepTw (p : PTw) (a : ATw) (h : okTw p a) (hg : goTw p a = true) : ∃ b, stepC okTw rdTw FTw muTw p a b := by
  obtain ⟨d, o, o2, i, rfl, rfl, hd, i0, i1, i2, la⟩ := h
  have hg0 : go0 o.length i = true := hg
  have hg1 := hg0
  unfold go0 at hg1
  rw [bif_and, Bool.and_eq_true, decide_eq_true_eq, decide_eq_true_eq] at hg1
  have hw : wI (i + 1) = i + 1 := wrap64_in (by omega) (by omega)
  obtain ⟨x1, x2⟩ := idR_is (g := o) (k := o.length) (i := i) rfl i0 hg1.1
  have hv := vM_bd o i (m := 1000000) (by omega) (by omega)
  have fin : ∀ (r : Int), 0 ≤ r → r ≤ 100 → ∃ b, allSay (tlTw b d i (vM o i 1000000) r) ∧ okTw (pTw d.c d.c o o2) (stTw (nxD b (d.put i (vM o i 1000000)) i r) (nxD b (d.put i (vM o i 1000000)) i r) (wI (i + 1))) := by
    intro r r0 r1; generalize hb : decide (0 ≤ (nxM (d.put i (vM o i 1000000)) i r).since) = b
    obtain ⟨c1, c2, c3, _⟩ := hd.turn (by omega) la (by omega) hv.1 (by omega) (by omega) r0 r1
    refine ⟨b, ⟨c1, rfl, c1, rfl, c2, hb, c2, hb, neD_no _ _ _ _, trivial⟩, nxD b (d.put i (vM o i 1000000)) i r, o, o2, wI (i + 1), rfl, rfl, ?_, by omega, by omega, by omega, ?_⟩
    · rw [hw, show 2 * (i + 1).toNat = 2 * i.toNat + 2 by omega]; exact c3 _
    · rw [hw]; show i ≤ i + 1; omega
  have mu : ∀ e, muTw (pTw d.c d.c o o2) (stTw e e (wI (i + 1))) < muTw (pTw d.c d.c o o2) (stTw d d i) := by
    intro e
    show (80 - wI (i + 1)).toNat < (80 - i).toNat
    rw [hw]; omega
  by_cases hj : i < (o2.length : Int)
  · have hr := vM_bd o2 i (m := 101) (by omega) (by omega)
    obtain ⟨y1, y2⟩ := idR_is (g := o2) (k := o2.length) (i := i) rfl i0 hj
    obtain ⟨b, hc, hk⟩ := fin (vM o2 i 101) hr.1 (by omega)
    exact ⟨_, T.path_eval (wayTw1 b o o2 d i) (allSay_append ⟨hg0, decide_eq_true hj, y1, y2, rfl, x1, x2, rfl, trivial⟩ hc), hk, mu _⟩
  · obtain ⟨b, hc, hk⟩ := fin 1 (by omega) (by omega)
    exact ⟨_, T.path_eval (wayTw0 b o o2 d i) (allSay_append ⟨hg0, decide_eq_false hj, x1, x2, rfl, trivial⟩ hc), hk, mu _⟩
theorem exTw (p : PTw) (a : ATw) (h : okTw p a) (hg : goTw p a = false) : (rdTw p a).eval = some (.exit 0, FTw p a) := T.path_eval (wayTwx p a) ⟨hg, trivial⟩
noncomputable def famTw : LSpec := famC [1,2,7,8,9] STw 2000 2020 108 decTw okTw goTw rdTw FTw muTw (.exit 0)
theorem lpTw_ok : LoopOk DL lpTw famTw := famC_ok (vs := vsTw) (bs := bsTw) DL_ok mixed (noLoops_ok _) decTw_ok (by simp) (fun _ _ => rfl) (fun _ _ => rfl) stepTw exTw
noncomputable def twR (c : Conf.Cf) (l m : List Int) : T V := execS DL (byReg [(rgTw, famTw)]) 13 [.agg (cfL c), .orow 2 [.int .i64] l, .orow 3 [.int .i64] m]
end Go.Proofs.Ytebibmioiigplaa.Dec

/- Layer 17: DecideQuiet: the loop. -/
namespace Go.Proofs.Ytebibmioiigplaa.Dec
open Go.Eng Go.RowKit Mil Rin
set_option linter.unusedVariables false
set_option linter.unusedSimpArgs false
set_option maxRecDepth 100000
noncomputable def lpQu : Code := loopAt Try.prog 14 0
structure PQu where (ctargetB : Int) (cutilB : Int) (cstableB : Int) (cpanicB : Int) (cgrainB : Int) (cthresholdB : Int) (cupB : Int) (cdownB : Int) (cminB : Int) (cmaxB : Int) (cinitialB : Int) (cgraceB : Int) (cdelayB : Int) (cburstB : Int) (climitB : Int) (cqueueB : Int) (ctimeoutB : Int) (creadyB : Int) (csubsetB : Int) (csampleB : Int) (ctargetA : Int) (cutilA : Int) (cstableA : Int) (cpanicA : Int) (cgrainA : Int) (cthresholdA : Int) (cupA : Int) (cdownA : Int) (cminA : Int) (cmaxA : Int) (cinitialA : Int) (cgraceA : Int) (cdelayA : Int) (cburstA : Int) (climitA : Int) (cqueueA : Int) (ctimeoutA : Int) (creadyA : Int) (csubsetA : Int) (csampleA : Int)
structure AQu where (gmA : Int) (omA : Bool) (spA : Int) (aA : Int) (nlA : Nat) (w1A : Int) (g1A : Int) (n1A : Nat) (nw1A : Int) (ov1A : Bool) (w2A : Int) (g2A : Int) (n2A : Nat) (nw2A : Int) (ov2A : Bool) (l1A : List OB) (l2A : List OB) (lA : List (Int × Int)) (siA : Int) (moA : Int) (laA : Int) (r : Int) (i : Int)
abbrev SQu : List (Nat × Src) := [(0, .same), (32, .same), (2000, .path 32 [20]), (2001, .path 32 [21]), (2002, .path 32 [20, 0, 0]), (2003, .path 32 [20, 0, 1]), (2004, .path 32 [20, 0, 0, 2]), (2005, .path 32 [20, 0, 1, 2]), (2006, .path 32 [21, 2])]
def vsQu (p : PQu) (a : AQu) : List V := [.ptr 0 0, .ptr 32 0, iv a.r, iv a.i]
def bsQu (p : PQu) (a : AQu) : List Blk := [.cells 52 [iv p.ctargetB, iv p.cutilB, iv p.cstableB, iv p.cpanicB, iv p.cgrainB, iv p.cthresholdB, iv p.cupB, iv p.cdownB, iv p.cminB, iv p.cmaxB, iv p.cinitialB, iv p.cgraceB, iv p.cdelayB, iv p.cburstB, iv p.climitB, iv p.cqueueB, iv p.ctimeoutB, iv p.creadyB, iv p.csubsetB, iv p.csampleB], .cells 162 [iv p.ctargetA, iv p.cutilA, iv p.cstableA, iv p.cpanicA, iv p.cgrainA, iv p.cthresholdA, iv p.cupA, iv p.cdownA, iv p.cminA, iv p.cmaxA, iv p.cinitialA, iv p.cgraceA, iv p.cdelayA, iv p.cburstA, iv p.climitA, iv p.cqueueA, iv p.ctimeoutA, iv p.creadyA, iv p.csubsetA, iv p.csampleA, .ptr 2000 0, .ptr 2001 0, iv a.siA, iv a.moA, iv a.laA], .cells 145 [.iface 142 (.agg [.ptr 2002 0, .ptr 2003 0]), iv a.gmA, bv a.omA], .cells 153 [iv a.spA, iv a.aA, .sub 2006 2 0 a.nlA], .cells 123 [iv a.w1A, iv a.g1A, .sub 2004 1 0 a.n1A, iv a.nw1A, bv a.ov1A], .cells 123 [iv a.w2A, iv a.g2A, .sub 2005 1 0 a.n2A, iv a.nw2A, bv a.ov2A], .bx 20 126 130 [.int .i64, .int .i64, .bool] a.l1A [] none, .bx 20 126 130 [.int .i64, .int .i64, .bool] a.l2A [] none, .lst true 158 [.int .i64, .int .i64] a.lA]
noncomputable def FQu (p : PQu) (a : AQu) : St := mkSt [5,6,7,8] (keysR SQu) 2020 78 (vsQu p a) (bsQu p a)
noncomputable def rdQu (p : PQu) (a : AQu) : T (Ex × St) := T.anon (roundN DL noLoops lpQu [5,6,7,8] SQu 2000 2020 (mkSt [5,6,7,8] (keysR SQu) 2020 78 (vsQu p a) (bsQu p a)))
def decQu_v0 : V → Option (Unit)
  | .ptr 0 0 => some ()
  | _ => none
theorem decQu_v0_ok (b : V) (x0 : Unit) (h : decQu_v0 b = some x0) : b = .ptr 0 0 := by
  unfold decQu_v0 at h
  split at h
  · cases h
    rfl
  · cases h
def decQu_v1 : V → Option (Unit)
  | .ptr 32 0 => some ()
  | _ => none
theorem decQu_v1_ok (b : V) (x1 : Unit) (h : decQu_v1 b = some x1) : b = .ptr 32 0 := by
  unfold decQu_v1 at h
  split at h
  · cases h
    rfl
  · cases h
def decQu_v2 : V → Option ((Int))
  | .s (.int .i64 r) => some (r)
  | _ => none
theorem decQu_v2_ok (b : V) (x2 : (Int)) (h : decQu_v2 b = some x2) : b = iv (x2) := by
  unfold decQu_v2 at h
  split at h
  · cases h
    rfl
  · cases h
def decQu_v3 : V → Option ((Int))
  | .s (.int .i64 i) => some (i)
  | _ => none
theorem decQu_v3_ok (b : V) (x3 : (Int)) (h : decQu_v3 b = some x3) : b = iv (x3) := by
  unfold decQu_v3 at h
  split at h
  · cases h
    rfl
  · cases h
def decQu_b0 : Blk → Option ((Int) × (Int) × (Int) × (Int) × (Int) × (Int) × (Int) × (Int) × (Int) × (Int) × (Int) × (Int) × (Int) × (Int) × (Int) × (Int) × (Int) × (Int) × (Int) × (Int))
  | .cells tt0 [.s (.int .i64 ctargetB), .s (.int .i64 cutilB), .s (.int .i64 cstableB), .s (.int .i64 cpanicB), .s (.int .i64 cgrainB), .s (.int .i64 cthresholdB), .s (.int .i64 cupB), .s (.int .i64 cdownB), .s (.int .i64 cminB), .s (.int .i64 cmaxB), .s (.int .i64 cinitialB), .s (.int .i64 cgraceB), .s (.int .i64 cdelayB), .s (.int .i64 cburstB), .s (.int .i64 climitB), .s (.int .i64 cqueueB), .s (.int .i64 ctimeoutB), .s (.int .i64 creadyB), .s (.int .i64 csubsetB), .s (.int .i64 csampleB)] => if tt0 = 52 then some (ctargetB, cutilB, cstableB, cpanicB, cgrainB, cthresholdB, cupB, cdownB, cminB, cmaxB, cinitialB, cgraceB, cdelayB, cburstB, climitB, cqueueB, ctimeoutB, creadyB, csubsetB, csampleB) else none
  | _ => none
theorem decQu_b0_ok (b : Blk) (y0 : (Int) × (Int) × (Int) × (Int) × (Int) × (Int) × (Int) × (Int) × (Int) × (Int) × (Int) × (Int) × (Int) × (Int) × (Int) × (Int) × (Int) × (Int) × (Int) × (Int)) (h : decQu_b0 b = some y0) : b = .cells 52 [iv (y0.1), iv (y0.2.1), iv (y0.2.2.1), iv (y0.2.2.2.1), iv (y0.2.2.2.2.1), iv (y0.2.2.2.2.2.1), iv (y0.2.2.2.2.2.2.1), iv (y0.2.2.2.2.2.2.2.1), iv (y0.2.2.2.2.2.2.2.2.1), iv (y0.2.2.2.2.2.2.2.2.2.1), iv (y0.2.2.2.2.2.2.2.2.2.2.1), iv (y0.2.2.2.2.2.2.2.2.2.2.2.1), iv (y0.2.2.2.2.2.2.2.2.2.2.2.2.1), iv (y0.2.2.2.2.2.2.2.2.2.2.2.2.2.1), iv (y0.2.2.2.2.2.2.2.2.2.2.2.2.2.2.1), iv (y0.2.2.2.2.2.2.2.2.2.2.2.2.2.2.2.1), iv (y0.2.2.2.2.2.2.2.2.2.2.2.2.2.2.2.2.1), iv (y0.2.2.2.2.2.2.2.2.2.2.2.2.2.2.2.2.2.1), iv (y0.2.2.2.2.2.2.2.2.2.2.2.2.2.2.2.2.2.2.1), iv (y0.2.2.2.2.2.2.2.2.2.2.2.2.2.2.2.2.2.2.2)] := by
  unfold decQu_b0 at h
  split at h
  · obtain ⟨e0, h⟩ := ite_some0 h
    subst e0
    cases h
    rfl
  · cases h
def decQu_b1 : Blk → Option ((Int) × (Int) × (Int) × (Int) × (Int) × (Int) × (Int) × (Int) × (Int) × (Int) × (Int) × (Int) × (Int) × (Int) × (Int) × (Int) × (Int) × (Int) × (Int) × (Int) × (Int) × (Int) × (Int))
  | .cells tt0 [.s (.int .i64 ctargetA), .s (.int .i64 cutilA), .s (.int .i64 cstableA), .s (.int .i64 cpanicA), .s (.int .i64 cgrainA), .s (.int .i64 cthresholdA), .s (.int .i64 cupA), .s (.int .i64 cdownA), .s (.int .i64 cminA), .s (.int .i64 cmaxA), .s (.int .i64 cinitialA), .s (.int .i64 cgraceA), .s (.int .i64 cdelayA), .s (.int .i64 cburstA), .s (.int .i64 climitA), .s (.int .i64 cqueueA), .s (.int .i64 ctimeoutA), .s (.int .i64 creadyA), .s (.int .i64 csubsetA), .s (.int .i64 csampleA), .ptr 2000 0, .ptr 2001 0, .s (.int .i64 siA), .s (.int .i64 moA), .s (.int .i64 laA)] => if tt0 = 162 then some (ctargetA, cutilA, cstableA, cpanicA, cgrainA, cthresholdA, cupA, cdownA, cminA, cmaxA, cinitialA, cgraceA, cdelayA, cburstA, climitA, cqueueA, ctimeoutA, creadyA, csubsetA, csampleA, siA, moA, laA) else none
  | _ => none
theorem decQu_b1_ok (b : Blk) (y1 : (Int) × (Int) × (Int) × (Int) × (Int) × (Int) × (Int) × (Int) × (Int) × (Int) × (Int) × (Int) × (Int) × (Int) × (Int) × (Int) × (Int) × (Int) × (Int) × (Int) × (Int) × (Int) × (Int)) (h : decQu_b1 b = some y1) : b = .cells 162 [iv (y1.1), iv (y1.2.1), iv (y1.2.2.1), iv (y1.2.2.2.1), iv (y1.2.2.2.2.1), iv (y1.2.2.2.2.2.1), iv (y1.2.2.2.2.2.2.1), iv (y1.2.2.2.2.2.2.2.1), iv (y1.2.2.2.2.2.2.2.2.1), iv (y1.2.2.2.2.2.2.2.2.2.1), iv (y1.2.2.2.2.2.2.2.2.2.2.1), iv (y1.2.2.2.2.2.2.2.2.2.2.2.1), iv (y1.2.2.2.2.2.2.2.2.2.2.2.2.1), iv (y1.2.2.2.2.2.2.2.2.2.2.2.2.2.1), iv (y1.2.2.2.2.2.2.2.2.2.2.2.2.2.2.1), iv (y1.2.2.2.2.2.2.2.2.2.2.2.2.2.2.2.1), iv (y1.2.2.2.2.2.2.2.2.2.2.2.2.2.2.2.2.1), iv (y1.2.2.2.2.2.2.2.2.2.2.2.2.2.2.2.2.2.1), iv (y1.2.2.2.2.2.2.2.2.2.2.2.2.2.2.2.2.2.2.1), iv (y1.2.2.2.2.2.2.2.2.2.2.2.2.2.2.2.2.2.2.2.1), .ptr 2000 0, .ptr 2001 0, iv (y1.2.2.2.2.2.2.2.2.2.2.2.2.2.2.2.2.2.2.2.2.1), iv (y1.2.2.2.2.2.2.2.2.2.2.2.2.2.2.2.2.2.2.2.2.2.1), iv (y1.2.2.2.2.2.2.2.2.2.2.2.2.2.2.2.2.2.2.2.2.2.2)] := by
  unfold decQu_b1 at h
  split at h
  · obtain ⟨e0, h⟩ := ite_some0 h
    subst e0
    cases h
    rfl
  · cases h
def decQu_b2 : Blk → Option ((Int) × (Bool))
  | .cells tt0 [.iface tt1 (.agg [.ptr 2002 0, .ptr 2003 0]), .s (.int .i64 gmA), .s (.bool omA)] => if tt0 = 145 then if tt1 = 142 then some (gmA, omA) else none else none
  | _ => none
theorem decQu_b2_ok (b : Blk) (y2 : (Int) × (Bool)) (h : decQu_b2 b = some y2) : b = .cells 145 [.iface 142 (.agg [.ptr 2002 0, .ptr 2003 0]), iv (y2.1), bv (y2.2)] := by
  unfold decQu_b2 at h
  split at h
  · obtain ⟨e0, h⟩ := ite_some0 h
    obtain ⟨e1, h⟩ := ite_some0 h
    subst e0 e1
    cases h
    rfl
  · cases h
def decQu_b3 : Blk → Option ((Int) × (Int) × (Nat))
  | .cells tt0 [.s (.int .i64 spA), .s (.int .i64 aA), .sub 2006 2 0 nlA] => if tt0 = 153 then some (spA, aA, nlA) else none
  | _ => none
theorem decQu_b3_ok (b : Blk) (y3 : (Int) × (Int) × (Nat)) (h : decQu_b3 b = some y3) : b = .cells 153 [iv (y3.1), iv (y3.2.1), .sub 2006 2 0 (y3.2.2)] := by
  unfold decQu_b3 at h
  split at h
  · obtain ⟨e0, h⟩ := ite_some0 h
    subst e0
    cases h
    rfl
  · cases h
def decQu_b4 : Blk → Option ((Int) × (Int) × (Nat) × (Int) × (Bool))
  | .cells tt0 [.s (.int .i64 w1A), .s (.int .i64 g1A), .sub 2004 1 0 n1A, .s (.int .i64 nw1A), .s (.bool ov1A)] => if tt0 = 123 then some (w1A, g1A, n1A, nw1A, ov1A) else none
  | _ => none
theorem decQu_b4_ok (b : Blk) (y4 : (Int) × (Int) × (Nat) × (Int) × (Bool)) (h : decQu_b4 b = some y4) : b = .cells 123 [iv (y4.1), iv (y4.2.1), .sub 2004 1 0 (y4.2.2.1), iv (y4.2.2.2.1), bv (y4.2.2.2.2)] := by
  unfold decQu_b4 at h
  split at h
  · obtain ⟨e0, h⟩ := ite_some0 h
    subst e0
    cases h
    rfl
  · cases h
def decQu_b5 : Blk → Option ((Int) × (Int) × (Nat) × (Int) × (Bool))
  | .cells tt0 [.s (.int .i64 w2A), .s (.int .i64 g2A), .sub 2005 1 0 n2A, .s (.int .i64 nw2A), .s (.bool ov2A)] => if tt0 = 123 then some (w2A, g2A, n2A, nw2A, ov2A) else none
  | _ => none
theorem decQu_b5_ok (b : Blk) (y5 : (Int) × (Int) × (Nat) × (Int) × (Bool)) (h : decQu_b5 b = some y5) : b = .cells 123 [iv (y5.1), iv (y5.2.1), .sub 2005 1 0 (y5.2.2.1), iv (y5.2.2.2.1), bv (y5.2.2.2.2)] := by
  unfold decQu_b5 at h
  split at h
  · obtain ⟨e0, h⟩ := ite_some0 h
    subst e0
    cases h
    rfl
  · cases h
def decQu_b6 : Blk → Option ((List OB))
  | .bx tt0 tt1 tt2 [.int .i64, .int .i64, .bool] l1A [] none => if tt0 = 20 then if tt1 = 126 then if tt2 = 130 then some (l1A) else none else none else none
  | _ => none
theorem decQu_b6_ok (b : Blk) (y6 : (List OB)) (h : decQu_b6 b = some y6) : b = .bx 20 126 130 [.int .i64, .int .i64, .bool] (y6) [] none := by
  unfold decQu_b6 at h
  split at h
  · obtain ⟨e0, h⟩ := ite_some0 h
    obtain ⟨e1, h⟩ := ite_some0 h
    obtain ⟨e2, h⟩ := ite_some0 h
    subst e0 e1 e2
    cases h
    rfl
  · cases h
def decQu_b7 : Blk → Option ((List OB))
  | .bx tt0 tt1 tt2 [.int .i64, .int .i64, .bool] l2A [] none => if tt0 = 20 then if tt1 = 126 then if tt2 = 130 then some (l2A) else none else none else none
  | _ => none
theorem decQu_b7_ok (b : Blk) (y7 : (List OB)) (h : decQu_b7 b = some y7) : b = .bx 20 126 130 [.int .i64, .int .i64, .bool] (y7) [] none := by
  unfold decQu_b7 at h
  split at h
  · obtain ⟨e0, h⟩ := ite_some0 h
    obtain ⟨e1, h⟩ := ite_some0 h
    obtain ⟨e2, h⟩ := ite_some0 h
    subst e0 e1 e2
    cases h
    rfl
  · cases h
def decQu_b8 : Blk → Option ((List (Int × Int)))
  | .lst true tt0 [.int .i64, .int .i64] lA => if tt0 = 158 then some (lA) else none
  | _ => none
theorem decQu_b8_ok (b : Blk) (y8 : (List (Int × Int))) (h : decQu_b8 b = some y8) : b = .lst true 158 [.int .i64, .int .i64] (y8) := by
  unfold decQu_b8 at h
  split at h
  · obtain ⟨e0, h⟩ := ite_some0 h
    subst e0
    cases h
    rfl
  · cases h
def decQu : List V → List Blk → Option (PQu × AQu)
  | [v0, v1, v2, v3], [b0, b1, b2, b3, b4, b5, b6, b7, b8] => (decQu_v0 v0).bind fun x0 => (decQu_v1 v1).bind fun x1 => (decQu_v2 v2).bind fun x2 => (decQu_v3 v3).bind fun x3 => (decQu_b0 b0).bind fun y0 => (decQu_b1 b1).bind fun y1 => (decQu_b2 b2).bind fun y2 => (decQu_b3 b3).bind fun y3 => (decQu_b4 b4).bind fun y4 => (decQu_b5 b5).bind fun y5 => (decQu_b6 b6).bind fun y6 => (decQu_b7 b7).bind fun y7 => (decQu_b8 b8).bind fun y8 => some (⟨(y0.1), (y0.2.1), (y0.2.2.1), (y0.2.2.2.1), (y0.2.2.2.2.1), (y0.2.2.2.2.2.1), (y0.2.2.2.2.2.2.1), (y0.2.2.2.2.2.2.2.1), (y0.2.2.2.2.2.2.2.2.1), (y0.2.2.2.2.2.2.2.2.2.1), (y0.2.2.2.2.2.2.2.2.2.2.1), (y0.2.2.2.2.2.2.2.2.2.2.2.1), (y0.2.2.2.2.2.2.2.2.2.2.2.2.1), (y0.2.2.2.2.2.2.2.2.2.2.2.2.2.1), (y0.2.2.2.2.2.2.2.2.2.2.2.2.2.2.1), (y0.2.2.2.2.2.2.2.2.2.2.2.2.2.2.2.1), (y0.2.2.2.2.2.2.2.2.2.2.2.2.2.2.2.2.1), (y0.2.2.2.2.2.2.2.2.2.2.2.2.2.2.2.2.2.1), (y0.2.2.2.2.2.2.2.2.2.2.2.2.2.2.2.2.2.2.1), (y0.2.2.2.2.2.2.2.2.2.2.2.2.2.2.2.2.2.2.2), (y1.1), (y1.2.1), (y1.2.2.1), (y1.2.2.2.1), (y1.2.2.2.2.1), (y1.2.2.2.2.2.1), (y1.2.2.2.2.2.2.1), (y1.2.2.2.2.2.2.2.1), (y1.2.2.2.2.2.2.2.2.1), (y1.2.2.2.2.2.2.2.2.2.1), (y1.2.2.2.2.2.2.2.2.2.2.1), (y1.2.2.2.2.2.2.2.2.2.2.2.1), (y1.2.2.2.2.2.2.2.2.2.2.2.2.1), (y1.2.2.2.2.2.2.2.2.2.2.2.2.2.1), (y1.2.2.2.2.2.2.2.2.2.2.2.2.2.2.1), (y1.2.2.2.2.2.2.2.2.2.2.2.2.2.2.2.1), (y1.2.2.2.2.2.2.2.2.2.2.2.2.2.2.2.2.1), (y1.2.2.2.2.2.2.2.2.2.2.2.2.2.2.2.2.2.1), (y1.2.2.2.2.2.2.2.2.2.2.2.2.2.2.2.2.2.2.1), (y1.2.2.2.2.2.2.2.2.2.2.2.2.2.2.2.2.2.2.2.1)⟩, ⟨(y2.1), (y2.2), (y3.1), (y3.2.1), (y3.2.2), (y4.1), (y4.2.1), (y4.2.2.1), (y4.2.2.2.1), (y4.2.2.2.2), (y5.1), (y5.2.1), (y5.2.2.1), (y5.2.2.2.1), (y5.2.2.2.2), (y6), (y7), (y8), (y1.2.2.2.2.2.2.2.2.2.2.2.2.2.2.2.2.2.2.2.2.1), (y1.2.2.2.2.2.2.2.2.2.2.2.2.2.2.2.2.2.2.2.2.2.1), (y1.2.2.2.2.2.2.2.2.2.2.2.2.2.2.2.2.2.2.2.2.2.2), (x2), (x3)⟩)
  | _, _ => none
theorem decQu_ok (l : List V) (b : List Blk) (d : PQu × AQu) (h : decQu l b = some d) : l = vsQu d.1 d.2 ∧ b = bsQu d.1 d.2 := by
  unfold decQu at h
  split at h
  · obtain ⟨x0, hx0, h⟩ := Option.bind_eq_some_iff.1 h
    obtain ⟨x1, hx1, h⟩ := Option.bind_eq_some_iff.1 h
    obtain ⟨x2, hx2, h⟩ := Option.bind_eq_some_iff.1 h
    obtain ⟨x3, hx3, h⟩ := Option.bind_eq_some_iff.1 h
    obtain ⟨y0, hy0, h⟩ := Option.bind_eq_some_iff.1 h
    obtain ⟨y1, hy1, h⟩ := Option.bind_eq_some_iff.1 h
    obtain ⟨y2, hy2, h⟩ := Option.bind_eq_some_iff.1 h
    obtain ⟨y3, hy3, h⟩ := Option.bind_eq_some_iff.1 h
    obtain ⟨y4, hy4, h⟩ := Option.bind_eq_some_iff.1 h
    obtain ⟨y5, hy5, h⟩ := Option.bind_eq_some_iff.1 h
    obtain ⟨y6, hy6, h⟩ := Option.bind_eq_some_iff.1 h
    obtain ⟨y7, hy7, h⟩ := Option.bind_eq_some_iff.1 h
    obtain ⟨y8, hy8, h⟩ := Option.bind_eq_some_iff.1 h
    have ex0 := decQu_v0_ok _ _ hx0
    have ex1 := decQu_v1_ok _ _ hx1
    have ex2 := decQu_v2_ok _ _ hx2
    have ex3 := decQu_v3_ok _ _ hx3
    have ey0 := decQu_b0_ok _ _ hy0
    have ey1 := decQu_b1_ok _ _ hy1
    have ey2 := decQu_b2_ok _ _ hy2
    have ey3 := decQu_b3_ok _ _ hy3
    have ey4 := decQu_b4_ok _ _ hy4
    have ey5 := decQu_b5_ok _ _ hy5
    have ey6 := decQu_b6_ok _ _ hy6
    have ey7 := decQu_b7_ok _ _ hy7
    have ey8 := decQu_b8_ok _ _ hy8
    cases h
    subst ex0 ex1 ex2 ex3 ey0 ey1 ey2 ey3 ey4 ey5 ey6 ey7 ey8
    exact ⟨rfl, rfl⟩
  · cases h
noncomputable def rgQu : Nat := (firstReg lpQu).getD 0
theorem rgQu_is : firstReg lpQu = some rgQu := by kernel_rfl
def pQu (e c : Conf.Cf) : PQu := ⟨e.target, e.util, e.stable, e.panic, e.grain, e.threshold, e.up, e.down, e.min, e.max, e.initial, e.grace, e.delay, e.burst, e.limit, e.queue, e.timeout, e.ready, e.subset, e.sample, c.target, c.util, c.stable, c.panic, c.grain, c.threshold, c.up, c.down, c.min, c.max, c.initial, c.grace, c.delay, c.burst, c.limit, c.queue, c.timeout, c.ready, c.subset, c.sample⟩
def stQu (d : DcS) (r i : Int) : AQu := ⟨d.gm, d.om, d.sp, d.a, d.n, d.s.w, d.s.g, d.s.n, d.s.nw, d.s.ov, d.q.w, d.q.g, d.q.n, d.q.nw, d.q.ov, d.s.l, d.q.l, d.l, d.si, d.mo, d.la, r, i⟩
end Go.Proofs.Ytebibmioiigplaa.Dec

/- Layer 17: DecideQuiet. -/
namespace Go.Proofs.Ytebibmioiigplaa.Dec
open Go.Eng Go.RowKit Mil Rin
set_option linter.unusedVariables false
set_option linter.unusedSimpArgs false
set_option maxRecDepth 100000
noncomputable def qu1 (d : DcS) (t r : Int) : Bool := bif (bif (bif (0 : Int) != 0 then true else decide (0 ≤ (nxK false d t r).since)) then true else decide ((if d.c.min > r then d.c.min else r) < nxW false d t r)) then true else d.s.mean t != 0
noncomputable def tlQu (d : DcS) (t r : Int) : List (Bool × Bool) := [(Dly.pB (okN17 d t r), true), (decide (0 ≤ (nxM d t r).since), false), (qu1 d t r, false)]
def evB (i : Int) : Bool := Int.tmod i 2 == 0
theorem wayQu1 (d : DcS) (r i : Int) : T.path [true, false, true, true, false, true, false, false] (rdQu (pQu d.c d.c) (stQu d r i)) =
    some ([(decide (i ≤ 60), true), ((2 : Int) == 0, false), (evB i, true), (Dly.pB (okP17 d i 0), true), ((bif evB i then (0 : Int) != 0 else false), false)] ++ tlQu (d.put i 0) i r, (.normal, FQu (pQu d.c d.c) (stQu (nxD false (d.put i 0) i r) (nxW false (d.put i 0) i r) (wI (i + 1))))) := by kernel_rfl
theorem wayQu0 (d : DcS) (r i : Int) : T.path [true, false, false, false, false, true, false, false] (rdQu (pQu d.c d.c) (stQu d r i)) =
    some ([(decide (i ≤ 60), true), ((2 : Int) == 0, false), (evB i, false), (evB i, false), (evB i, false)] ++ tlQu d i r, (.normal, FQu (pQu d.c d.c) (stQu (nxD false d i r) (nxW false d i r) (wI (i + 1))))) := by kernel_rfl
theorem wayQux (p : PQu) (a : AQu) : T.path [false] (rdQu p a) = some ([(decide (a.i ≤ 60), false)], (.exit 0, FQu p a)) := by kernel_rfl
def cQ (m : Int) : Conf.Cf := ⟨Conf.dflt.target, Conf.dflt.util, Conf.dflt.stable, Conf.dflt.panic, Conf.dflt.grain, Conf.dflt.threshold, Conf.dflt.up, Conf.dflt.down, m, Conf.dflt.max, if 1 > m then 1 else m, Conf.dflt.grace, Conf.dflt.delay, Conf.dflt.burst, Conf.dflt.limit, Conf.dflt.queue, Conf.dflt.timeout, Conf.dflt.ready, Conf.dflt.subset, Conf.dflt.sample⟩
theorem may_ab {c : Conf.Cf} {tg mi mx ini : Int} (hc : c = ⟨tg, Conf.dflt.util, Conf.dflt.stable, Conf.dflt.panic, Conf.dflt.grain, Conf.dflt.threshold, Conf.dflt.up, Conf.dflt.down, mi, mx, ini, Conf.dflt.grace, Conf.dflt.delay, Conf.dflt.burst, Conf.dflt.limit, Conf.dflt.queue, Conf.dflt.timeout, Conf.dflt.ready, Conf.dflt.subset, Conf.dflt.sample⟩) (h1 : 10 ≤ tg ∧ tg ≤ 1000000) (h2 : 0 ≤ mi ∧ mi ≤ 100) (h3 : mx = 0 ∨ (mi ≤ mx ∧ 1 ≤ mx ∧ mx ≤ 100)) (h4 : 0 ≤ ini ∧ ini ≤ if mx = 0 then 100 else mx) : Conf.mayB c = true := by
  subst hc
  rw [(Conf.may_iff _).2]
  refine ⟨h1, ?_, ?_, ?_, ?_, ?_, ?_, ?_, h2, h3, h4, ?_, ?_, ?_, ?_, ?_, ?_, ?_, ?_, ?_⟩
  · show (100 : Int) ≤ 700 ∧ (700 : Int) ≤ 1000; omega
  · show 6 ≤ (60 : Int) ∧ (60 : Int) ≤ 600; omega
  · show (1 : Int) ≤ 6 ∧ (6 : Int) ≤ 60; omega
  · show (1 : Int) ≤ 1 ∧ (1 : Int) ≤ 6; omega
  · show (1100 : Int) ≤ 2000 ∧ (2000 : Int) ≤ 10000; omega
  · show (1001 : Int) ≤ 10000 ∧ (10000 : Int) ≤ 1000000; omega
  · show (1001 : Int) ≤ 2000 ∧ (2000 : Int) ≤ 1000000; omega
  · show (0 : Int) ≤ 30 ∧ (30 : Int) ≤ 600; omega
  · show (0 : Int) ≤ 0 ∧ (0 : Int) ≤ 600; omega
  · refine .inr ?_; show (0 : Int) ≤ 20000 ∧ (20000 : Int) ≤ 100000000; omega
  · show (1 : Int) ≤ 10 ∧ (10 : Int) ≤ 1000; omega
  · show (0 : Int) ≤ 100 ∧ (100 : Int) ≤ 200; omega
  · show (1 : Int) ≤ 60 ∧ (60 : Int) ≤ 10000; omega
  · show (0 : Int) ≤ 3 ∧ (3 : Int) ≤ 100; omega
  · show (0 : Int) ≤ 0 ∧ (0 : Int) ≤ 100; omega
  · show (0 : Int) ≤ 0 ∧ (0 : Int) ≤ 100; omega
theorem cQ_may {m : Int} (h0 : 0 ≤ m) (h1 : m ≤ 100) : Conf.mayB (cQ m) = true := by
  refine may_ab rfl ⟨by show (10 : Int) ≤ 10000; omega, by show (10000 : Int) ≤ 1000000; omega⟩ ⟨h0, h1⟩ (.inl rfl) ?_
  rw [if_pos (show Conf.dflt.max = 0 from rfl)]
  split <;> omega
theorem of_nought (c : Conf.Cf) : Conf.ofC c 0 = 0 := by
  unfold Conf.ofC
  split
  · have : upV 0 (Conf.perC c) = 0 := by
      unfold upV upI
      split
      · rfl
      · simp; rfl
    rw [this]; rfl
  · rfl
theorem over_nought {c : Conf.Cf} (hm : Conf.mayB c = true) (r : Int) : Conf.overC c 0 r = false := by
  have h1 := (Conf.may_of hm).threshold
  have h2 := Conf.clampI_range r (lo := 1) (hi := 1000000) (by omega)
  have h3 : 1100 * 1 ≤ c.threshold * clampI r 1 1000000 := Int.mul_le_mul h1.1 h2.1 (by omega) (by omega)
  unfold Conf.overC
  rw [hm, decide_eq_false]; rfl
  show ¬ c.threshold * clampI r 1 1000000 ≤ clampI 0 0 1000000 * 1000
  have : clampI 0 0 1000000 = 0 := rfl
  rw [this]; omega
/-- calm stays calm under no load -/
theorem nxM_quiet {d : DcS} (hm : Conf.mayB d.c = true) (hsi : d.si = -1) {t r : Int} (hq : d.q.mean t = 0) : (nxM d t r).since = -1 := by
  unfold nxM hasty
  rw [hq, of_nought, over_nought hm]
  unfold Conf.nextA
  split
  · exact hsi
  · show (if false = true then _ else if d.si < 0 then (⟨d.si, d.mo⟩ : Conf.Md) else _).since = -1
    rw [if_neg (by decide), if_pos (by omega)]; exact hsi
def hvQ : Nat → Int
  | 0 => 100
  | k + 1 => hvQ k / 2
theorem quiet_want {m : Int} (h0 : 0 ≤ m) (h1 : m ≤ 100) {r : Int} (r0 : 0 ≤ r) (r1 : r ≤ 100) : boundI (cQ m) (Conf.limitR (cQ m) 0 r) = if m > r / 2 then m else r / 2 := by
  have may := cQ_may h0 h1
  obtain ⟨a1, a2, _, a4⟩ := Conf.rate_between (Conf.may_of may) r0 (show r ≤ 900000 by omega)
  have e : Conf.leastR (cQ m) r = r / 2 := by
    unfold Conf.leastR
    rw [if_pos may]
    show 1000 * clampI r 0 1000000 / 2000 = r / 2
    have : clampI r 0 1000000 = r := by unfold clampI; rw [if_neg (by omega), if_neg (by omega)]
    rw [this]; omega
  have e2 : Conf.limitR (cQ m) 0 r = r / 2 := by
    unfold Conf.limitR
    rw [if_pos may]
    unfold Conf.midR
    rw [e] at a1 a4 ⊢
    repeat' split
    all_goals omega
  rw [e2]
  unfold boundI
  have e3 : Conf.mostC (cQ m) = 100 := rfl
  have e4 : (cQ m).min = m := rfl
  rw [e3, e4]
  repeat' split
  all_goals omega
def okQu (p : PQu) (a : AQu) : Prop := ∃ (d : DcS) (m r i : Int), p = pQu d.c d.c ∧ a = stQu d r i ∧ d.c = cQ m ∧ 0 ≤ m ∧ m ≤ 100 ∧ DcR d 0 (2 * i.toNat) ∧ 1 ≤ i ∧ i ≤ 61 ∧ d.la < i ∧ d.sp = 0 ∧ d.si = -1 ∧ 0 ≤ r ∧ r ≤ 100 ∧ (r ≤ m ∨ r ≤ hvQ (i.toNat - 1)) ∧ (2 ≤ i → m ≤ r)
def goQu (p : PQu) (a : AQu) : Bool := decide (a.i ≤ 60)
def muQu (p : PQu) (a : AQu) : Nat := (61 - a.i).toNat
/-- a round of no load -/
theorem qu_round {d : DcS} {k : Nat} (h : DcR d 0 k) (hk : k < 990) {m r i : Int} (hc : d.c = cQ m) (m0 : 0 ≤ m) (m1 : m ≤ 100) (la : d.la < i) (i1 : i ≤ 100) (hsp : d.sp = 0) (hsi : d.si = -1) (r0 : 0 ≤ r) (r1 : r ≤ 100) :
    allSay (tlQu d i r) ∧ DcR (nxD false d i r) 0 (k + 1) ∧ (nxD false d i r).si = -1 ∧ nxW false d i r = if m > r / 2 then m else r / 2 := by
  obtain ⟨c, hd, ⟨s0, s1⟩, q0, q1⟩ := h.next (t := i) (r := r) (by omega) (by omega) (by omega) r0 r1 (Int.le_refl _) (by omega)
  have es : d.s.mean i = 0 := by omega
  have eq : d.q.mean i = 0 := by omega
  have hM := nxM_quiet h.g.may hsi (r := r) eq
  have hK : (nxK false d i r).since = -1 := (keep_since _ _).trans hM
  have hb : decide (0 ≤ (nxM d i r).since) = false := decide_eq_false (by omega)
  have hW : nxW false d i r = if m > r / 2 then m else r / 2 := by
    rw [nx_rates h.g hsp la (by omega) r0 r1 false hb (by omega)]
    unfold calmy
    rw [es, of_nought, hc, quiet_want m0 m1 r0 r1]
  refine ⟨⟨c, hb, ?_, trivial⟩, hd false, hK, hW⟩
  unfold qu1
  have em : d.c.min = m := by rw [hc]; rfl
  rw [es, hW, em, decide_eq_false (show ¬ 0 ≤ (nxK false d i r).since by omega), decide_eq_false]
  · rfl
  · split <;> split <;> omega
theorem stepQu (p : PQu) (a : AQu) (h : okQu p a) (hg : goQu p a = true) : ∃ b, stepC okQu rdQu FQu muQu p a b := by
  obtain ⟨d, m, r, i, rfl, rfl, hc, m0, m1, hd, i0, i1, la, hsp, hsi, r0, r1, hr, hm⟩ := h
  have hg0 : decide (i ≤ 60) = true := hg
  have hi := of_decide_eq_true hg0
  have hw : wI (i + 1) = i + 1 := wrap64_in (by omega) (by omega)
  have hv : hvQ ((i + 1).toNat - 1) = hvQ (i.toNat - 1) / 2 := by
    rw [show (i + 1).toNat - 1 = (i.toNat - 1) + 1 by omega]; rfl
  have fin : ∀ (e : DcS) (k : Nat), e.c = d.c → DcR e 0 (k + 1) → k ≤ 2 * i.toNat + 1 → e.si = -1 → e.la = i → e.sp = 0 → okQu (pQu d.c d.c) (stQu e (if m > r / 2 then m else r / 2) (wI (i + 1))) := by
    intro e k h1 h2 h3 h4 h5 h6
    rw [hw]
    refine ⟨e, m, _, i + 1, by rw [h1], rfl, by rw [h1, hc], m0, m1, ⟨h2.g.mono (by omega), h2.s.mono (by omega), h2.q.mono (by omega), h2.om⟩, by omega, by omega, by omega, h6, h4, by split <;> omega, by split <;> omega, ?_, by intro _; split <;> omega⟩
    rw [hv]; split <;> omega
  have mu : ∀ e r', muQu (pQu d.c d.c) (stQu e r' (wI (i + 1))) < muQu (pQu d.c d.c) (stQu d r i) := by
    intro e r'
    show (61 - wI (i + 1)).toNat < (61 - i).toNat
    rw [hw]; omega
  cases hev : evB i with
  | true =>
    obtain ⟨c1, p1⟩ := hd.put (t := i) (v := 0) (by omega) (by omega) (by omega) (Int.le_refl _) (Int.le_refl _) (by omega)
    obtain ⟨c2, n1, n2, n3⟩ := qu_round p1 (by omega) (m := m) (r := r) (i := i) hc m0 m1 la (by omega) hsp hsi r0 r1
    have way := wayQu1 d r i
    rw [n3] at way
    exact ⟨_, T.path_eval way (allSay_append ⟨hg0, rfl, hev, c1, by rw [hev]; rfl, trivial⟩ c2), fin _ _ rfl n1 (Nat.le_refl _) n2 rfl hsp, mu _ _⟩
  | false =>
    obtain ⟨c2, n1, n2, n3⟩ := qu_round hd (by omega) (m := m) (r := r) (i := i) hc m0 m1 la (by omega) hsp hsi r0 r1
    have way := wayQu0 d r i
    rw [n3] at way
    exact ⟨_, T.path_eval way (allSay_append ⟨hg0, rfl, hev, hev, hev, trivial⟩ c2), fin _ _ rfl n1 (by omega) n2 rfl hsp, mu _ _⟩
theorem exQu (p : PQu) (a : AQu) (h : okQu p a) (hg : goQu p a = false) : (rdQu p a).eval = some (.exit 0, FQu p a) := T.path_eval (wayQux p a) ⟨hg, trivial⟩
noncomputable def famQu : LSpec := famC [5,6,7,8] SQu 2000 2020 78 decQu okQu goQu rdQu FQu muQu (.exit 0)
theorem lpQu_ok : LoopOk DL lpQu famQu := famC_ok (vs := vsQu) (bs := bsQu) DL_ok mixed (noLoops_ok _) decQu_ok (by simp) (fun _ _ => rfl) (fun _ _ => rfl) stepQu exQu
noncomputable def quiR (a b : Int) : T V := execS DL (byReg [(rgQu, famQu)]) 14 [Eng.iv a, Eng.iv b]
noncomputable def eQu (m r : Int) : AQu := endW (nxtC okQu goQu rdQu FQu muQu (pQu (cQ m) (cQ m))) (stQu (DcS.new (cQ m)) r 1)
theorem qui_w (a b m r : Int) (e : AQu) (hm : wI (Int.tmod (IntKind.wrap .u64 a) 101) = m) (hr : wI (Int.tmod (IntKind.wrap .u64 b) 101) = r) (he : eQu m r = e) : T.path [false, true, false, true] (T.anon (quiR a b)) = some ([((101 : Int) == 0, false), (Conf.mayB (cQ m), true), ((101 : Int) == 0, false), (invC okQu (pQu (cQ m) (cQ m)) (stQu (DcS.new (cQ m)) r 1), true)], .s (.bool (e.r == m))) := by
  subst he; subst hm; subst hr; kernel_rfl
theorem qui_run (a b : Int) : (quiR a b).yes := by
  unfold T.yes
  refine .inr ?_
  rw [← T.eval_anon (t := quiR a b)]
  have hA := modI a (m := 101) (by omega) (by omega)
  have hB := modI b (m := 101) (by omega) (by omega)
  have way := qui_w a b (IntKind.wrap .i64 (Int.tmod (IntKind.wrap .u64 a) 101)) (IntKind.wrap .i64 (Int.tmod (IntKind.wrap .u64 b) 101)) _ rfl rfl rfl
  revert way hA hB
  generalize IntKind.wrap .i64 (Int.tmod (IntKind.wrap .u64 a) 101) = m
  generalize IntKind.wrap .i64 (Int.tmod (IntKind.wrap .u64 b) 101) = r
  intro hA hB way
  have hm := cQ_may hA.1 (show m ≤ 100 by omega)
  have h0 : okQu (pQu (cQ m) (cQ m)) (stQu (DcS.new (cQ m)) r 1) := ⟨DcS.new (cQ m), m, r, 1, rfl, rfl, rfl, hA.1, by omega, ⟨(DcR.new hm 0).g.mono (by omega), (DcR.new hm 0).s.mono (by omega), (DcR.new hm 0).q.mono (by omega), rfl⟩, by omega, by omega, by show (0 : Int) < 1; omega, rfl, rfl, hB.1, by omega, .inr (by show r ≤ 100; omega), fun h => by omega⟩
  obtain ⟨k1, k2⟩ := endC stepQu h0
  obtain ⟨d, m', r', i, hp, ha, hc, m0, m1, hd, i0, i1, la, hsp, hsi, r0, r1, hr, hmr⟩ := k1
  have he : eQu m r = stQu d r' i := ha
  have hcm : cQ m = d.c := by
    have : (pQu (cQ m) (cQ m)).cminA = (pQu d.c d.c).cminA := by rw [hp]
    have : (cQ m).min = d.c.min := this
    rw [hc] at this ⊢
    have : m = m' := this
    rw [this]
  have em : m = m' := by
    have : (cQ m).min = (cQ m').min := by rw [hcm, hc]
    exact this
  subst em
  have k2 : decide ((eQu m r).i ≤ 60) = false := k2
  rw [he] at way k2
  have k2 : ¬ i ≤ 60 := of_decide_eq_false k2
  have hi : i = 61 := by omega
  subst hi
  have e0 : hvQ ((61 : Int).toNat - 1) = 0 := by kernel_rfl
  rw [e0] at hr
  have hmr := hmr (by omega)
  have e : r' = m := by omega
  refine (T.path_eval way ⟨rfl, hm, rfl, invC_is h0, trivial⟩).trans ?_
  show some (V.s (.bool (r' == m))) = _
  rw [e]; simp
theorem qui_walk (a : Int) (_ : (Lit.int .i64 a).wf = true) (b : Int) (_ : (Lit.int .i64 b).wf = true) (W : World) :
    Calls Try.prog 14 #[.int .i64 a, .int .i64 b] W fun e w' => e = .returned (.bool true) ∧ Below W.heap.size W w' :=
  Law.law_rows (args := [Eng.iv a, Eng.iv b]) (xs := [.int .i64 a, .int .i64 b]) (execS_loops (Λ := byReg [(rgQu, famQu)]) DL_ok mixed Try.func14 (by kernel_rfl) (by kernel_rfl) (one_lp (by kernel_rfl) rgQu_is lpQu_ok)) rfl (qui_run a b) W ⟨rfl, rfl, trivial⟩
end Go.Proofs.Ytebibmioiigplaa.Dec

