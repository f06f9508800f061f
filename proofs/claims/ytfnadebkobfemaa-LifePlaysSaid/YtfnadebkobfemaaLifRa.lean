/- Layer 21: the document's own pods: the loops of Count, goer, Ready, at, Ripe. -/
import Derived.Test.YtfnadebkobfemaaLifAb
import Derived.Test.YtfnadebkobfemaaLifN
namespace Go.Proofs.Ytfnadebkobfemaa.Lif
open Go.Eng Go.RowKit
set_option linter.unusedVariables false
set_option linter.unusedSimpArgs false
def rfB (K : Nat) (m : Int) (n : Nat) : Blk := .cells 49 [.sub K 4 0 n, iv m]
def hR (m : Int) (n : Nat) (l : List R4) : Heap := [(0, rfB 1 m n), (1, podB l)]
noncomputable def lpRc : Code := loopAt Try.prog 42 0
structure PRc where (m : Int) (n : Nat) (l : List R4)
structure ARc where (c : Int) (i : Int)
abbrev SRc : List (Nat × Src) := [(0, .same), (1, .same)]
def vsRc (p : PRc) (a : ARc) : List V := [.ptr 0 0, iv a.c, iv a.i]
def bsRc (p : PRc) (a : ARc) : List Blk := [.cells 49 [.sub 1 4 0 p.n, iv p.m], .lst true 39 [.int .i64, .int .i64, .int .i64, .int .i64] p.l]
noncomputable def FRc (p : PRc) (a : ARc) : St := mkSt [0,3,4] (keysR SRc) 1000 26 (vsRc p a) (bsRc p a)
noncomputable def rdRc (p : PRc) (a : ARc) : T (Ex × St) := T.anon (roundN J0 noLoops lpRc [0,3,4] SRc 1000 1000 (mkSt [0,3,4] (keysR SRc) 1000 26 (vsRc p a) (bsRc p a)))
def decRc : List V → List Blk → Option (PRc × ARc)
  | [.ptr 0 0, .s (.int .i64 c), .s (.int .i64 i)], [.cells tt0 [.sub 1 4 0 n, .s (.int .i64 m)], .lst true tt1 [.int .i64, .int .i64, .int .i64, .int .i64] l] =>
    if tt0 = 49 then if tt1 = 39 then some (⟨m, n, l⟩, ⟨c, i⟩) else none else none
  | _, _ => none
theorem decRc_ok (l : List V) (b : List Blk) (d : PRc × ARc) (h : decRc l b = some d) : l = vsRc d.1 d.2 ∧ b = bsRc d.1 d.2 := by
  unfold decRc at h
  split at h
  · obtain ⟨e0, h⟩ := ite_some0 h
    obtain ⟨e1, h⟩ := ite_some0 h
    subst e0 e1
    cases h
    exact ⟨rfl, rfl⟩
  · cases h
noncomputable def rgRc : Nat := (firstReg lpRc).getD 0
theorem rgRc_is : firstReg lpRc = some rgRc := by kernel_rfl
noncomputable def lpRg : Code := loopAt Try.prog 77 0
structure PRg where (m : Int) (n : Nat) (l : List R4)
structure ARg where (b : Int) (i : Int)
abbrev SRg : List (Nat × Src) := [(0, .same), (1, .same)]
def vsRg (p : PRg) (a : ARg) : List V := [.ptr 0 0, iv a.b, iv a.i]
def bsRg (p : PRg) (a : ARg) : List Blk := [.cells 49 [.sub 1 4 0 p.n, iv p.m], .lst true 39 [.int .i64, .int .i64, .int .i64, .int .i64] p.l]
noncomputable def FRg (p : PRg) (a : ARg) : St := mkSt [0,3,4] (keysR SRg) 1000 71 (vsRg p a) (bsRg p a)
noncomputable def rdRg (p : PRg) (a : ARg) : T (Ex × St) := T.anon (roundN J0 noLoops lpRg [0,3,4] SRg 1000 1000 (mkSt [0,3,4] (keysR SRg) 1000 71 (vsRg p a) (bsRg p a)))
def decRg : List V → List Blk → Option (PRg × ARg)
  | [.ptr 0 0, .s (.int .i64 b), .s (.int .i64 i)], [.cells tt0 [.sub 1 4 0 n, .s (.int .i64 m)], .lst true tt1 [.int .i64, .int .i64, .int .i64, .int .i64] l] =>
    if tt0 = 49 then if tt1 = 39 then some (⟨m, n, l⟩, ⟨b, i⟩) else none else none
  | _, _ => none
theorem decRg_ok (l : List V) (b : List Blk) (d : PRg × ARg) (h : decRg l b = some d) : l = vsRg d.1 d.2 ∧ b = bsRg d.1 d.2 := by
  unfold decRg at h
  split at h
  · obtain ⟨e0, h⟩ := ite_some0 h
    obtain ⟨e1, h⟩ := ite_some0 h
    subst e0 e1
    cases h
    exact ⟨rfl, rfl⟩
  · cases h
noncomputable def rgRg : Nat := (firstReg lpRg).getD 0
theorem rgRg_is : firstReg lpRg = some rgRg := by kernel_rfl
noncomputable def lpRh : Code := loopAt Try.prog 77 1
structure PRh where (m : Int) (n : Nat) (l : List R4)
structure ARh where (b : Int) (i : Int)
abbrev SRh : List (Nat × Src) := [(0, .same), (1, .same)]
def vsRh (p : PRh) (a : ARh) : List V := [.ptr 0 0, iv a.b, iv a.i]
def bsRh (p : PRh) (a : ARh) : List Blk := [.cells 49 [.sub 1 4 0 p.n, iv p.m], .lst true 39 [.int .i64, .int .i64, .int .i64, .int .i64] p.l]
noncomputable def FRh (p : PRh) (a : ARh) : St := mkSt [0,3,5] (keysR SRh) 1500 71 (vsRh p a) (bsRh p a)
noncomputable def rdRh (p : PRh) (a : ARh) : T (Ex × St) := T.anon (roundN J0 noLoops lpRh [0,3,5] SRh 1500 1500 (mkSt [0,3,5] (keysR SRh) 1500 71 (vsRh p a) (bsRh p a)))
def decRh : List V → List Blk → Option (PRh × ARh)
  | [.ptr 0 0, .s (.int .i64 b), .s (.int .i64 i)], [.cells tt0 [.sub 1 4 0 n, .s (.int .i64 m)], .lst true tt1 [.int .i64, .int .i64, .int .i64, .int .i64] l] =>
    if tt0 = 49 then if tt1 = 39 then some (⟨m, n, l⟩, ⟨b, i⟩) else none else none
  | _, _ => none
theorem decRh_ok (l : List V) (b : List Blk) (d : PRh × ARh) (h : decRh l b = some d) : l = vsRh d.1 d.2 ∧ b = bsRh d.1 d.2 := by
  unfold decRh at h
  split at h
  · obtain ⟨e0, h⟩ := ite_some0 h
    obtain ⟨e1, h⟩ := ite_some0 h
    subst e0 e1
    cases h
    exact ⟨rfl, rfl⟩
  · cases h
noncomputable def rgRh : Nat := (firstReg lpRh).getD 0
theorem rgRh_is : firstReg lpRh = some rgRh := by kernel_rfl
noncomputable def lpRd : Code := loopAt Try.prog 41 0
structure PRd where (m : Int) (n : Nat) (l : List R4)
structure ARd where (W : List Int) (j : Nat) (i : Int)
abbrev SRd : List (Nat × Src) := [(0, .same), (1, .same), (1000, .tmp 3)]
def vsRd (p : PRd) (a : ARd) : List V := [.ptr 0 0, .sub 1000 1 0 a.j, iv a.i]
def bsRd (p : PRd) (a : ARd) : List Blk := [.cells 49 [.sub 1 4 0 p.n, iv p.m], .lst true 39 [.int .i64, .int .i64, .int .i64, .int .i64] p.l, .lst true 3 [.int .i64] a.W]
noncomputable def FRd (p : PRd) (a : ARd) : St := mkSt [0,3,4] (keysR SRd) 1001 35 (vsRd p a) (bsRd p a)
noncomputable def rdRd (p : PRd) (a : ARd) : T (Ex × St) := T.anon (roundN J0 noLoops lpRd [0,3,4] SRd 1000 1001 (mkSt [0,3,4] (keysR SRd) 1001 35 (vsRd p a) (bsRd p a)))
def decRd : List V → List Blk → Option (PRd × ARd)
  | [.ptr 0 0, .sub 1000 1 0 j, .s (.int .i64 i)], [.cells tt0 [.sub 1 4 0 n, .s (.int .i64 m)], .lst true tt1 [.int .i64, .int .i64, .int .i64, .int .i64] l, .lst true tt2 [.int .i64] W] =>
    if tt0 = 49 then if tt1 = 39 then if tt2 = 3 then some (⟨m, n, l⟩, ⟨W, j, i⟩) else none else none else none
  | _, _ => none
theorem decRd_ok (l : List V) (b : List Blk) (d : PRd × ARd) (h : decRd l b = some d) : l = vsRd d.1 d.2 ∧ b = bsRd d.1 d.2 := by
  unfold decRd at h
  split at h
  · obtain ⟨e0, h⟩ := ite_some0 h
    obtain ⟨e1, h⟩ := ite_some0 h
    obtain ⟨e2, h⟩ := ite_some0 h
    subst e0 e1 e2
    cases h
    exact ⟨rfl, rfl⟩
  · cases h
noncomputable def rgRd : Nat := (firstReg lpRd).getD 0
theorem rgRd_is : firstReg lpRd = some rgRd := by kernel_rfl
noncomputable def lpRt : Code := loopAt Try.prog 79 0
structure PRt where (m : Int) (n : Nat) (l : List R4) (id : Int)
structure ARt where (i : Int)
abbrev SRt : List (Nat × Src) := [(0, .same), (1, .same)]
def vsRt (p : PRt) (a : ARt) : List V := [.ptr 0 0, iv p.id, iv a.i]
def bsRt (p : PRt) (a : ARt) : List Blk := [.cells 49 [.sub 1 4 0 p.n, iv p.m], .lst true 39 [.int .i64, .int .i64, .int .i64, .int .i64] p.l]
noncomputable def FRt (p : PRt) (a : ARt) : St := mkSt [0,1,5] (keysR SRt) 1000 26 (vsRt p a) (bsRt p a)
abbrev SRtx : List (Nat × Src) := [(0, .same), (1, .same)]
noncomputable def rdRt (p : PRt) (a : ARt) : T (Ex × St) := T.anon (roundX J0 noLoops lpRt [0,1,5] SRt [0,4] SRtx 1000 1000 (mkSt [0,1,5] (keysR SRt) 1000 26 (vsRt p a) (bsRt p a)))
def decRt : List V → List Blk → Option (PRt × ARt)
  | [.ptr 0 0, .s (.int .i64 id), .s (.int .i64 i)], [.cells tt0 [.sub 1 4 0 n, .s (.int .i64 m)], .lst true tt1 [.int .i64, .int .i64, .int .i64, .int .i64] l] =>
    if tt0 = 49 then if tt1 = 39 then some (⟨m, n, l, id⟩, ⟨i⟩) else none else none
  | _, _ => none
theorem decRt_ok (l : List V) (b : List Blk) (d : PRt × ARt) (h : decRt l b = some d) : l = vsRt d.1 d.2 ∧ b = bsRt d.1 d.2 := by
  unfold decRt at h
  split at h
  · obtain ⟨e0, h⟩ := ite_some0 h
    obtain ⟨e1, h⟩ := ite_some0 h
    subst e0 e1
    cases h
    exact ⟨rfl, rfl⟩
  · cases h
noncomputable def rgRt : Nat := (firstReg lpRt).getD 0
theorem rgRt_is : firstReg lpRt = some rgRt := by kernel_rfl
noncomputable def lpRr : Code := loopAt Try.prog 34 0
structure PRr where (m : Int) (n : Nat) (now : Int) (a : Int) (l0 : List R4)
structure ARr where (l : List R4) (i : Int)
abbrev SRr : List (Nat × Src) := [(0, .same), (1, .same)]
def vsRr (p : PRr) (a : ARr) : List V := [.ptr 0 0, iv p.now, iv p.a, iv a.i]
def bsRr (p : PRr) (a : ARr) : List Blk := [.cells 49 [.sub 1 4 0 p.n, iv p.m], .lst true 39 [.int .i64, .int .i64, .int .i64, .int .i64] a.l]
noncomputable def FRr (p : PRr) (a : ARr) : St := mkSt [0,1,2,6] (keysR SRr) 1000 54 (vsRr p a) (bsRr p a)
noncomputable def rdRr (p : PRr) (a : ARr) : T (Ex × St) := T.anon (roundN J0 noLoops lpRr [0,1,2,6] SRr 1000 1000 (mkSt [0,1,2,6] (keysR SRr) 1000 54 (vsRr p a) (bsRr p a)))
def decRr : List V → List Blk → Option (PRr × ARr)
  | [.ptr 0 0, .s (.int .i64 now), .s (.int .i64 a), .s (.int .i64 i)], [.cells tt0 [.sub 1 4 0 n, .s (.int .i64 m)], .lst true tt1 [.int .i64, .int .i64, .int .i64, .int .i64] l] =>
    if tt0 = 49 then if tt1 = 39 then some (⟨m, n, now, a, l⟩, ⟨l, i⟩) else none else none
  | _, _ => none
theorem decRr_ok (l : List V) (b : List Blk) (d : PRr × ARr) (h : decRr l b = some d) : l = vsRr d.1 d.2 ∧ b = bsRr d.1 d.2 := by
  unfold decRr at h
  split at h
  · obtain ⟨e0, h⟩ := ite_some0 h
    obtain ⟨e1, h⟩ := ite_some0 h
    subst e0 e1
    cases h
    exact ⟨rfl, rfl⟩
  · cases h
noncomputable def rgRr : Nat := (firstReg lpRr).getD 0
theorem rgRr_is : firstReg lpRr = some rgRr := by kernel_rfl
noncomputable def JE : Cfg := ⟨Try.prog, lookG [], [39], 0⟩
theorem JE_ok : JE.Ok := Cfg.ok trivial ⟨⟨by kernel_rfl, by kernel_rfl⟩, trivial⟩
noncomputable def lpPe : Code := loopAt Try.prog 38 0
structure PPe where (a : List R4) (b : List R4) (n : Nat) (k : Nat)
structure APe where (i : Int)
abbrev SPe : List (Nat × Src) := [(0, .same), (1, .same)]
def vsPe (p : PPe) (a : APe) : List V := [.sub 0 4 0 p.n, .sub 1 4 0 p.k, iv a.i]
def bsPe (p : PPe) (a : APe) : List Blk := [.lst false 39 [.int .i64, .int .i64, .int .i64, .int .i64] p.a, .lst false 39 [.int .i64, .int .i64, .int .i64, .int .i64] p.b]
noncomputable def FPe (p : PPe) (a : APe) : St := mkSt [0,1,5] (keysR SPe) 1000 26 (vsPe p a) (bsPe p a)
noncomputable def rdPe (p : PPe) (a : APe) : T (Ex × St) := T.anon (roundN JE noLoops lpPe [0,1,5] SPe 1000 1000 (mkSt [0,1,5] (keysR SPe) 1000 26 (vsPe p a) (bsPe p a)))
def decPe : List V → List Blk → Option (PPe × APe)
  | [.sub 0 4 0 n, .sub 1 4 0 k, .s (.int .i64 i)], [.lst false tt0 [.int .i64, .int .i64, .int .i64, .int .i64] a, .lst false tt1 [.int .i64, .int .i64, .int .i64, .int .i64] b] =>
    if tt0 = 39 then if tt1 = 39 then some (⟨a, b, n, k⟩, ⟨i⟩) else none else none
  | _, _ => none
theorem decPe_ok (l : List V) (b : List Blk) (d : PPe × APe) (h : decPe l b = some d) : l = vsPe d.1 d.2 ∧ b = bsPe d.1 d.2 := by
  unfold decPe at h
  split at h
  · obtain ⟨e0, h⟩ := ite_some0 h
    obtain ⟨e1, h⟩ := ite_some0 h
    subst e0 e1
    cases h
    exact ⟨rfl, rfl⟩
  · cases h
noncomputable def rgPe : Nat := (firstReg lpPe).getD 0
theorem rgPe_is : firstReg lpPe = some rgPe := by kernel_rfl
noncomputable def lpIe : Code := loopAt Try.prog 39 0
structure PIe where (a : List Int) (b : List Int) (n : Nat) (k : Nat)
structure AIe where (i : Int)
abbrev SIe : List (Nat × Src) := [(0, .same), (1, .same)]
def vsIe (p : PIe) (a : AIe) : List V := [.sub 0 1 0 p.n, .sub 1 1 0 p.k, iv a.i]
def bsIe (p : PIe) (a : AIe) : List Blk := [.lst false 3 [.int .i64] p.a, .lst false 3 [.int .i64] p.b]
noncomputable def FIe (p : PIe) (a : AIe) : St := mkSt [0,1,5] (keysR SIe) 1000 26 (vsIe p a) (bsIe p a)
noncomputable def rdIe (p : PIe) (a : AIe) : T (Ex × St) := T.anon (roundN JE noLoops lpIe [0,1,5] SIe 1000 1000 (mkSt [0,1,5] (keysR SIe) 1000 26 (vsIe p a) (bsIe p a)))
def decIe : List V → List Blk → Option (PIe × AIe)
  | [.sub 0 1 0 n, .sub 1 1 0 k, .s (.int .i64 i)], [.lst false tt0 [.int .i64] a, .lst false tt1 [.int .i64] b] =>
    if tt0 = 3 then if tt1 = 3 then some (⟨a, b, n, k⟩, ⟨i⟩) else none else none
  | _, _ => none
theorem decIe_ok (l : List V) (b : List Blk) (d : PIe × AIe) (h : decIe l b = some d) : l = vsIe d.1 d.2 ∧ b = bsIe d.1 d.2 := by
  unfold decIe at h
  split at h
  · obtain ⟨e0, h⟩ := ite_some0 h
    obtain ⟨e1, h⟩ := ite_some0 h
    subst e0 e1
    cases h
    exact ⟨rfl, rfl⟩
  · cases h
noncomputable def rgIe : Nat := (firstReg lpIe).getD 0
theorem rgIe_is : firstReg lpIe = some rgIe := by kernel_rfl
end Go.Proofs.Ytfnadebkobfemaa.Lif
