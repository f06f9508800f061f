/- Layer 5: the document's ring: its loops' states. -/
import Derived.Test.YtheknddbbgjpkaaRdS
namespace Go.Proofs.Ytheknddbbgjpkaa.Rin
open Go.Eng Go.RowKit Mil
set_option linter.unusedVariables false
set_option linter.unusedSimpArgs false
noncomputable def lpFo : Code := loopAt Try.prog 96 0
structure PFo where (w : Int) (g : Int) (n : Nat) (nw : Int) (ov : Bool) (l : List (Int × Int))
structure AFo where (m : Nat) (k : List (Int × Int)) (j : Int)
abbrev SFo : List (Nat × Src) := [(0, .same), (1, .same), (1000, .tmp 2)]
def vsFo (p : PFo) (a : AFo) : List V := [.ptr 0 0, .sub 1000 2 0 a.m, iv a.j]
def bsFo (p : PFo) (a : AFo) : List Blk := [.cells 78 [iv p.w, iv p.g, .sub 1 2 0 p.n, iv p.nw, bv p.ov], .lst true 86 [.int .i64, .int .i64] p.l, .lst true 86 [.int .i64, .int .i64] a.k]
noncomputable def FFo (p : PFo) (a : AFo) : St := mkSt [0,2,3] (keysR SFo) 1001 45 (vsFo p a) (bsFo p a)
noncomputable def rdFo (p : PFo) (a : AFo) : T (Ex × St) := T.anon (roundN D1 noLoops lpFo [0,2,3] SFo 1000 1001 (mkSt [0,2,3] (keysR SFo) 1001 45 (vsFo p a) (bsFo p a)))
def decFo : List V → List Blk → Option (PFo × AFo)
  | [.ptr 0 0, .sub 1000 2 0 m, .s (.int .i64 j)], [.cells tt0 [.s (.int .i64 w), .s (.int .i64 g), .sub 1 2 0 n, .s (.int .i64 nw), .s (.bool ov)], .lst true tt1 [.int .i64, .int .i64] l, .lst true tt2 [.int .i64, .int .i64] k] =>
    if tt0 = 78 then if tt1 = 86 then if tt2 = 86 then some (⟨w, g, n, nw, ov, l⟩, ⟨m, k, j⟩) else none else none else none
  | _, _ => none
theorem decFo_ok (l : List V) (b : List Blk) (d : PFo × AFo) (h : decFo l b = some d) : l = vsFo d.1 d.2 ∧ b = bsFo d.1 d.2 := by
  unfold decFo at h
  split at h
  · obtain ⟨e0, h⟩ := ite_some0 h
    obtain ⟨e1, h⟩ := ite_some0 h
    obtain ⟨e2, h⟩ := ite_some0 h
    subst e0 e1 e2
    cases h
    exact ⟨rfl, rfl⟩
  · cases h
noncomputable def rgFo : Nat := (firstReg lpFo).getD 0
theorem rgFo_is : firstReg lpFo = some rgFo := by kernel_rfl
noncomputable def D2 : Cfg := ⟨Try.prog, lookG [(55, .see nS), (95, .see bkS), (97, .val Sta.addS)], [], 0⟩
theorem D2_ok : D2.Ok := Cfg.ok ⟨nS_ok, bkS_ok, Sta.refadd_ok, trivial⟩ trivial
noncomputable def lpDs : Code := loopAt Try.prog 49 0
structure PDs where (w : Int) (g : Int) (n : Nat) (nw : Int) (l : List (Int × Int)) (t : Int) (ov0 : Bool)
structure ADs where (ov : Bool) (s : Int) (c : Int) (j : Int)
abbrev SDs : List (Nat × Src) := [(0, .same), (1, .same)]
def vsDs (p : PDs) (a : ADs) : List V := [.ptr 0 0, iv p.t, iv a.s, iv a.c, iv a.j]
def bsDs (p : PDs) (a : ADs) : List Blk := [.cells 78 [iv p.w, iv p.g, .sub 1 2 0 p.n, iv p.nw, bv a.ov], .lst true 86 [.int .i64, .int .i64] p.l]
noncomputable def FDs (p : PDs) (a : ADs) : St := mkSt [0,1,6,7,8] (keysR SDs) 100 76 (vsDs p a) (bsDs p a)
noncomputable def rdDs (p : PDs) (a : ADs) : T (Ex × St) := T.anon (roundN D2 noLoops lpDs [0,1,6,7,8] SDs 100 100 (mkSt [0,1,6,7,8] (keysR SDs) 100 76 (vsDs p a) (bsDs p a)))
def decDs : List V → List Blk → Option (PDs × ADs)
  | [.ptr 0 0, .s (.int .i64 t), .s (.int .i64 s), .s (.int .i64 c), .s (.int .i64 j)], [.cells tt0 [.s (.int .i64 w), .s (.int .i64 g), .sub 1 2 0 n, .s (.int .i64 nw), .s (.bool ov)], .lst true tt1 [.int .i64, .int .i64] l] =>
    if tt0 = 78 then if tt1 = 86 then some (⟨w, g, n, nw, l, t, ov⟩, ⟨ov, s, c, j⟩) else none else none
  | _, _ => none
theorem decDs_ok (l : List V) (b : List Blk) (d : PDs × ADs) (h : decDs l b = some d) : l = vsDs d.1 d.2 ∧ b = bsDs d.1 d.2 := by
  unfold decDs at h
  split at h
  · obtain ⟨e0, h⟩ := ite_some0 h
    obtain ⟨e1, h⟩ := ite_some0 h
    subst e0 e1
    cases h
    exact ⟨rfl, rfl⟩
  · cases h
noncomputable def rgDs : Nat := (firstReg lpDs).getD 0
theorem rgDs_is : firstReg lpDs = some rgDs := by kernel_rfl
end Go.Proofs.Ytheknddbbgjpkaa.Rin
