/- Layer 21: LifePlays: its loop. -/
import Derived.Test.YtfnadebkobfemaaLifRh
namespace Go.Proofs.Ytfnadebkobfemaa.Lif
open Go.Eng Go.RowKit
set_option linter.unusedVariables false
set_option linter.unusedSimpArgs false
noncomputable def lpPa : Code := loopAt Try.prog 5 0
structure PPa where (g : List R4) (kg : Nat)
structure APa where (m : Int) (n : Nat) (l : List R4) (w : Int) (k : Nat) (r : List R4) (i : Int)
abbrev SPa : List (Nat × Src) := [(0, .same), (1, .same), (9, .same), (2000, .cell 1 1), (2001, .cell 9 0)]
def vsPa (p : PPa) (a : APa) : List V := [.sub 0 4 0 p.kg, .ptr 1 0, .ptr 9 0, iv a.i]
def bsPa (p : PPa) (a : APa) : List Blk := [.lst false 51 [.int .i64, .int .i64, .int .i64, .int .i64] p.g, .cells 108 [iv a.m, .sub 2000 4 0 a.n], .cells 49 [.sub 2001 4 0 a.k, iv a.w], .lst true 39 [.int .i64, .int .i64, .int .i64, .int .i64] a.l, .lst true 39 [.int .i64, .int .i64, .int .i64, .int .i64] a.r]
noncomputable def FPa (p : PPa) (a : APa) : St := mkSt [0,3,4,5] (keysR SPa) 2002 134 (vsPa p a) (bsPa p a)
noncomputable def rdPa (p : PPa) (a : APa) : T (Ex × St) := T.anon (roundN JP noLoops lpPa [0,3,4,5] SPa 2000 2002 (mkSt [0,3,4,5] (keysR SPa) 2002 134 (vsPa p a) (bsPa p a)))
def decPa : List V → List Blk → Option (PPa × APa)
  | [.sub 0 4 0 kg, .ptr 1 0, .ptr 9 0, .s (.int .i64 i)], [.lst false tt0 [.int .i64, .int .i64, .int .i64, .int .i64] g, .cells tt1 [.s (.int .i64 m), .sub 2000 4 0 n], .cells tt2 [.sub 2001 4 0 k, .s (.int .i64 w)], .lst true tt3 [.int .i64, .int .i64, .int .i64, .int .i64] l, .lst true tt4 [.int .i64, .int .i64, .int .i64, .int .i64] r] =>
    if tt0 = 51 then if tt1 = 108 then if tt2 = 49 then if tt3 = 39 then if tt4 = 39 then some (⟨g, kg⟩, ⟨m, n, l, w, k, r, i⟩) else none else none else none else none else none
  | _, _ => none
theorem decPa_ok (l : List V) (b : List Blk) (d : PPa × APa) (h : decPa l b = some d) : l = vsPa d.1 d.2 ∧ b = bsPa d.1 d.2 := by
  unfold decPa at h
  split at h
  · obtain ⟨e0, h⟩ := ite_some0 h
    obtain ⟨e1, h⟩ := ite_some0 h
    obtain ⟨e2, h⟩ := ite_some0 h
    obtain ⟨e3, h⟩ := ite_some0 h
    obtain ⟨e4, h⟩ := ite_some0 h
    subst e0 e1 e2 e3 e4
    cases h
    exact ⟨rfl, rfl⟩
  · cases h
noncomputable def rgPa : Nat := (firstReg lpPa).getD 0
theorem rgPa_is : firstReg lpPa = some rgPa := by kernel_rfl
end Go.Proofs.Ytfnadebkobfemaa.Lif
