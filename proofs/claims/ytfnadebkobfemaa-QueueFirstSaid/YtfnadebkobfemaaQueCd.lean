/- Layer 20: QueueFirst: its outer loop. -/
import Derived.Test.YtfnadebkobfemaaQueCc
namespace Go.Proofs.Ytfnadebkobfemaa.Que
open Go.Eng Go.RowKit
set_option linter.unusedVariables false
set_option linter.unusedSimpArgs false
noncomputable def lpFb : Code := lpF0
structure PFb where (g : List Int) (kg : Nat) (age : Int) (d : Int)
structure AFb where (x : Int) (y : Int) (i : Int) (c : List Int) (u : V) (n : Nat) (l : List (Int × Int))
abbrev SFb : List (Nat × Src) := [(0, .same), (1, .same), (9, .same), (1000, .cell 1 2)]
def vsFb (p : PFb) (a : AFb) : List V := [.sub 0 1 0 p.kg, iv p.age, .ptr 1 0, iv a.x, iv a.y, .pr 9 1 0 0, iv a.i]
def bsFb (p : PFb) (a : AFb) : List Blk := [.lst false 3 [.int .i64] p.g, .cells 100 [iv p.d, a.u, .sub 1000 2 0 a.n], .lst true 25 [.int .i64] a.c, .lst true 103 [.int .i64, .int .i64] a.l]
noncomputable def FFb (p : PFb) (a : AFb) : St := mkSt [0,1,5,6,7,8,9] (keysR SFb) 1001 139 (vsFb p a) (bsFb p a)
noncomputable def rdFb (p : PFb) (a : AFb) : T (Ex × St) := T.anon (roundN J7 (byReg [(rgFa, famFa)]) lpFb [0,1,5,6,7,8,9] SFb 1000 1001 (mkSt [0,1,5,6,7,8,9] (keysR SFb) 1001 139 (vsFb p a) (bsFb p a)))
def decFb : List V → List Blk → Option (PFb × AFb)
  | [.sub 0 1 0 kg, .s (.int .i64 age), .ptr 1 0, .s (.int .i64 x), .s (.int .i64 y), .pr 9 1 0 0, .s (.int .i64 i)], [.lst false tt0 [.int .i64] g, .cells tt1 [.s (.int .i64 d), u, .sub 1000 2 0 n], .lst true tt2 [.int .i64] c, .lst true tt3 [.int .i64, .int .i64] l] =>
    if tt0 = 3 then if tt1 = 100 then if tt2 = 25 then if tt3 = 103 then some (⟨g, kg, age, d⟩, ⟨x, y, i, c, u, n, l⟩) else none else none else none else none
  | _, _ => none
theorem decFb_ok (l : List V) (b : List Blk) (d : PFb × AFb) (h : decFb l b = some d) : l = vsFb d.1 d.2 ∧ b = bsFb d.1 d.2 := by
  unfold decFb at h
  split at h
  · obtain ⟨e0, h⟩ := ite_some0 h
    obtain ⟨e1, h⟩ := ite_some0 h
    obtain ⟨e2, h⟩ := ite_some0 h
    obtain ⟨e3, h⟩ := ite_some0 h
    subst e0 e1 e2 e3
    cases h
    exact ⟨rfl, rfl⟩
  · cases h
noncomputable def rgFb : Nat := (firstReg lpFb).getD 0
theorem rgFb_is : firstReg lpFb = some rgFb := by kernel_rfl
theorem fbLoops : loopsIn lpFb = [lpFa] := by kernel_rfl
theorem fbIn : LoopsOkS J7 (byReg [(rgFa, famFa)]) lpFb := lps_in fbLoops rgFa_is lpFa_ok
end Go.Proofs.Ytfnadebkobfemaa.Que
