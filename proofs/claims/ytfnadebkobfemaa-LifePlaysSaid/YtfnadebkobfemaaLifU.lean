/- Layer 21: loops of the methods: Count, Ready, Ripe. -/
import Derived.Test.YtfnadebkobfemaaLifT
import Derived.Test.YtfnadebkobfemaaLifM
namespace Go.Proofs.Ytfnadebkobfemaa.Lif
open Go.Eng Go.RowKit
set_option linter.unusedVariables false
set_option linter.unusedSimpArgs false
noncomputable def lpCn : Code := loopAt Try.prog 30 0
structure PCn where (m : Int) (n : Nat) (l : List R4) (k : Nat) (z : Int)
structure ACn where (c : Int) (i : Int)
abbrev SCn : List (Nat × Src) := [(0, .same), (1, .same)]
def vsCn (p : PCn) (a : ACn) : List V := [.ptr 0 0, iv a.c, .sub 1 4 0 p.k, iv p.z, iv a.i]
def bsCn (p : PCn) (a : ACn) : List Blk := [.cells 108 [iv p.m, .sub 1 4 0 p.n], .lst true 39 [.int .i64, .int .i64, .int .i64, .int .i64] p.l]
noncomputable def FCn (p : PCn) (a : ACn) : St := mkSt [0,3,11,12,13] (keysR SCn) 1000 24 (vsCn p a) (bsCn p a)
noncomputable def rdCn (p : PCn) (a : ACn) : T (Ex × St) := T.anon (roundN J0 noLoops lpCn [0,3,11,12,13] SCn 1000 1000 (mkSt [0,3,11,12,13] (keysR SCn) 1000 24 (vsCn p a) (bsCn p a)))
def decCn : List V → List Blk → Option (PCn × ACn)
  | [.ptr 0 0, .s (.int .i64 c), .sub 1 4 0 k, .s (.int .i64 z), .s (.int .i64 i)], [.cells tt0 [.s (.int .i64 m), .sub 1 4 0 n], .lst true tt1 [.int .i64, .int .i64, .int .i64, .int .i64] l] =>
    if tt0 = 108 then if tt1 = 39 then some (⟨m, n, l, k, z⟩, ⟨c, i⟩) else none else none
  | _, _ => none
theorem decCn_ok (l : List V) (b : List Blk) (d : PCn × ACn) (h : decCn l b = some d) : l = vsCn d.1 d.2 ∧ b = bsCn d.1 d.2 := by
  unfold decCn at h
  split at h
  · obtain ⟨e0, h⟩ := ite_some0 h
    obtain ⟨e1, h⟩ := ite_some0 h
    subst e0 e1
    cases h
    exact ⟨rfl, rfl⟩
  · cases h
noncomputable def rgCn : Nat := (firstReg lpCn).getD 0
theorem rgCn_is : firstReg lpCn = some rgCn := by kernel_rfl
noncomputable def lpRy : Code := loopAt Try.prog 40 0
structure PRy where (m : Int) (n : Nat) (l : List R4) (k : Nat) (z : Int)
structure ARy where (W : List Int) (j : Nat) (i : Int)
abbrev SRy : List (Nat × Src) := [(0, .same), (1, .same), (1000, .tmp 3)]
def vsRy (p : PRy) (a : ARy) : List V := [.ptr 0 0, .sub 1000 1 0 a.j, .sub 1 4 0 p.k, iv p.z, iv a.i]
def bsRy (p : PRy) (a : ARy) : List Blk := [.cells 108 [iv p.m, .sub 1 4 0 p.n], .lst true 39 [.int .i64, .int .i64, .int .i64, .int .i64] p.l, .lst true 3 [.int .i64] a.W]
noncomputable def FRy (p : PRy) (a : ARy) : St := mkSt [0,3,11,12,13] (keysR SRy) 1001 27 (vsRy p a) (bsRy p a)
noncomputable def rdRy (p : PRy) (a : ARy) : T (Ex × St) := T.anon (roundN J0 noLoops lpRy [0,3,11,12,13] SRy 1000 1001 (mkSt [0,3,11,12,13] (keysR SRy) 1001 27 (vsRy p a) (bsRy p a)))
def decRy : List V → List Blk → Option (PRy × ARy)
  | [.ptr 0 0, .sub 1000 1 0 j, .sub 1 4 0 k, .s (.int .i64 z), .s (.int .i64 i)], [.cells tt0 [.s (.int .i64 m), .sub 1 4 0 n], .lst true tt1 [.int .i64, .int .i64, .int .i64, .int .i64] l, .lst true tt2 [.int .i64] W] =>
    if tt0 = 108 then if tt1 = 39 then if tt2 = 3 then some (⟨m, n, l, k, z⟩, ⟨W, j, i⟩) else none else none else none
  | _, _ => none
theorem decRy_ok (l : List V) (b : List Blk) (d : PRy × ARy) (h : decRy l b = some d) : l = vsRy d.1 d.2 ∧ b = bsRy d.1 d.2 := by
  unfold decRy at h
  split at h
  · obtain ⟨e0, h⟩ := ite_some0 h
    obtain ⟨e1, h⟩ := ite_some0 h
    obtain ⟨e2, h⟩ := ite_some0 h
    subst e0 e1 e2
    cases h
    exact ⟨rfl, rfl⟩
  · cases h
noncomputable def rgRy : Nat := (firstReg lpRy).getD 0
theorem rgRy_is : firstReg lpRy = some rgRy := by kernel_rfl
noncomputable def lpRi : Code := loopAt Try.prog 26 0
structure PRi where (m : Int) (n : Nat) (k : Nat) (z : Int) (now : Int) (a : Int) (l0 : List R4)
structure ARi where (l : List R4) (i : Int)
abbrev SRi : List (Nat × Src) := [(0, .same), (1, .same)]
def vsRi (p : PRi) (a : ARi) : List V := [.ptr 0 0, iv p.now, iv p.a, .sub 1 4 0 p.k, iv p.z, iv a.i]
def bsRi (p : PRi) (a : ARi) : List Blk := [.cells 108 [iv p.m, .sub 1 4 0 p.n], .lst true 39 [.int .i64, .int .i64, .int .i64, .int .i64] a.l]
noncomputable def FRi (p : PRi) (a : ARi) : St := mkSt [0,1,2,21,22,23] (keysR SRi) 1000 51 (vsRi p a) (bsRi p a)
noncomputable def rdRi (p : PRi) (a : ARi) : T (Ex × St) := T.anon (roundN J0 noLoops lpRi [0,1,2,21,22,23] SRi 1000 1000 (mkSt [0,1,2,21,22,23] (keysR SRi) 1000 51 (vsRi p a) (bsRi p a)))
def decRi : List V → List Blk → Option (PRi × ARi)
  | [.ptr 0 0, .s (.int .i64 now), .s (.int .i64 a), .sub 1 4 0 k, .s (.int .i64 z), .s (.int .i64 i)], [.cells tt0 [.s (.int .i64 m), .sub 1 4 0 n], .lst true tt1 [.int .i64, .int .i64, .int .i64, .int .i64] l] =>
    if tt0 = 108 then if tt1 = 39 then some (⟨m, n, k, z, now, a, l⟩, ⟨l, i⟩) else none else none
  | _, _ => none
theorem decRi_ok (l : List V) (b : List Blk) (d : PRi × ARi) (h : decRi l b = some d) : l = vsRi d.1 d.2 ∧ b = bsRi d.1 d.2 := by
  unfold decRi at h
  split at h
  · obtain ⟨e0, h⟩ := ite_some0 h
    obtain ⟨e1, h⟩ := ite_some0 h
    subst e0 e1
    cases h
    exact ⟨rfl, rfl⟩
  · cases h
noncomputable def rgRi : Nat := (firstReg lpRi).getD 0
theorem rgRi_is : firstReg lpRi = some rgRi := by kernel_rfl
noncomputable def lpFi : Code := loopAt Try.prog 74 0
structure PFi where (m : Int) (n : Nat) (l : List R4) (k : Nat) (z : Int) (id : Int)
structure AFi where (i : Int)
abbrev SFi : List (Nat × Src) := [(0, .same), (1, .same)]
def vsFi (p : PFi) (a : AFi) : List V := [.ptr 0 0, iv p.id, .sub 1 4 0 p.k, iv p.z, iv a.i]
def bsFi (p : PFi) (a : AFi) : List Blk := [.cells 108 [iv p.m, .sub 1 4 0 p.n], .lst true 39 [.int .i64, .int .i64, .int .i64, .int .i64] p.l]
noncomputable def FFi (p : PFi) (a : AFi) : St := mkSt [0,1,10,11,12] (keysR SFi) 1000 26 (vsFi p a) (bsFi p a)
abbrev SFix : List (Nat × Src) := [(0, .same), (1, .same)]
noncomputable def rdFi (p : PFi) (a : AFi) : T (Ex × St) := T.anon (roundX J0 noLoops lpFi [0,1,10,11,12] SFi [0,4] SFix 1000 1000 (mkSt [0,1,10,11,12] (keysR SFi) 1000 26 (vsFi p a) (bsFi p a)))
def decFi : List V → List Blk → Option (PFi × AFi)
  | [.ptr 0 0, .s (.int .i64 id), .sub 1 4 0 k, .s (.int .i64 z), .s (.int .i64 i)], [.cells tt0 [.s (.int .i64 m), .sub 1 4 0 n], .lst true tt1 [.int .i64, .int .i64, .int .i64, .int .i64] l] =>
    if tt0 = 108 then if tt1 = 39 then some (⟨m, n, l, k, z, id⟩, ⟨i⟩) else none else none
  | _, _ => none
theorem decFi_ok (l : List V) (b : List Blk) (d : PFi × AFi) (h : decFi l b = some d) : l = vsFi d.1 d.2 ∧ b = bsFi d.1 d.2 := by
  unfold decFi at h
  split at h
  · obtain ⟨e0, h⟩ := ite_some0 h
    obtain ⟨e1, h⟩ := ite_some0 h
    subst e0 e1
    cases h
    exact ⟨rfl, rfl⟩
  · cases h
noncomputable def rgFi : Nat := (firstReg lpFi).getD 0
theorem rgFi_is : firstReg lpFi = some rgFi := by kernel_rfl
end Go.Proofs.Ytfnadebkobfemaa.Lif
