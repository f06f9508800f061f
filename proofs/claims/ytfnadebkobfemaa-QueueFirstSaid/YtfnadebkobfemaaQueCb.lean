/- Layer 20: QueueFirst: its outer loop's states (wip). -/
import Derived.Test.YtfnadebkobfemaaQueCa
namespace Go.Proofs.Ytfnadebkobfemaa.Que
open Go.Eng Go.RowKit
set_option linter.unusedVariables false
set_option linter.unusedSimpArgs false
noncomputable def lpF0 : Code := loopAt Try.prog 3 0
noncomputable def lpFa : Code := (loopsIn lpF0).getD 0 .skip
structure PFa where (g : List Int) (kg : Nat) (age : Int) (d : Int) (x : Int) (i : Int) (c : List Int) (u : V) (n : Nat) (l : List (Int × Int)) (a : Int) (W : List Int) (q : Nat) (y0 : Int)
structure AFa where (y : Int) (j : Int)
abbrev SFa : List (Nat × Src) := [(0, .same), (1, .same), (9, .same), (2000, .cell 1 2), (2001, .tmp 15)]
def vsFa (p : PFa) (a : AFa) : List V := [.sub 0 1 0 p.kg, iv p.age, .ptr 1 0, iv p.x, iv a.y, .pr 9 1 0 0, iv p.i, iv p.a, .sub 2001 1 0 p.q, iv a.j]
def bsFa (p : PFa) (a : AFa) : List Blk := [.lst false 3 [.int .i64] p.g, .cells 100 [iv p.d, p.u, .sub 2000 2 0 p.n], .lst true 25 [.int .i64] p.c, .lst true 103 [.int .i64, .int .i64] p.l, .lst true 3 [.int .i64] p.W]
noncomputable def FFa (p : PFa) (a : AFa) : St := mkSt [0,1,5,6,7,8,9,14,15,16] (keysR SFa) 2002 139 (vsFa p a) (bsFa p a)
noncomputable def rdFa (p : PFa) (a : AFa) : T (Ex × St) := T.anon (roundN J7 noLoops lpFa [0,1,5,6,7,8,9,14,15,16] SFa 2000 2002 (mkSt [0,1,5,6,7,8,9,14,15,16] (keysR SFa) 2002 139 (vsFa p a) (bsFa p a)))
def decFa : List V → List Blk → Option (PFa × AFa)
  | [.sub 0 1 0 kg, .s (.int .i64 age), .ptr 1 0, .s (.int .i64 x), .s (.int .i64 y), .pr 9 1 0 0, .s (.int .i64 i), .s (.int .i64 a), .sub 2001 1 0 q, .s (.int .i64 j)], [.lst false tt0 [.int .i64] g, .cells tt1 [.s (.int .i64 d), u, .sub 2000 2 0 n], .lst true tt2 [.int .i64] c, .lst true tt3 [.int .i64, .int .i64] l, .lst true tt4 [.int .i64] W] =>
    if tt0 = 3 then if tt1 = 100 then if tt2 = 25 then if tt3 = 103 then if tt4 = 3 then some (⟨g, kg, age, d, x, i, c, u, n, l, a, W, q, y⟩, ⟨y, j⟩) else none else none else none else none else none
  | _, _ => none
theorem decFa_ok (l : List V) (b : List Blk) (d : PFa × AFa) (h : decFa l b = some d) : l = vsFa d.1 d.2 ∧ b = bsFa d.1 d.2 := by
  unfold decFa at h
  split at h
  · obtain ⟨e0, h⟩ := ite_some0 h
    obtain ⟨e1, h⟩ := ite_some0 h
    obtain ⟨e2, h⟩ := ite_some0 h
    obtain ⟨e3, h⟩ := ite_some0 h
    obtain ⟨e4, h⟩ := ite_some0 h
    subst e0 e1 e2 e3 e4
    cases h
    exact ⟨rfl, rfl⟩
  · cases h
noncomputable def rgFa : Nat := (firstReg lpFa).getD 0
theorem rgFa_is : firstReg lpFa = some rgFa := by kernel_rfl
end Go.Proofs.Ytfnadebkobfemaa.Que
