/- Layer 5: the ring's reach: its loop. -/
import Derived.Test.YtheknddbbgjpkaaRinS
namespace Go.Proofs.Ytheknddbbgjpkaa.Rin
open Go.Eng Go.RowKit Mil
set_option linter.unusedVariables false
set_option linter.unusedSimpArgs false
noncomputable def lpRa : Code := loopAt Try.prog 91 0
structure PRa where (w : Int) (g : Int) (n : Nat) (nw : Int) (ov : Bool) (i : Int) (l0 : List OB)
structure ARa where (l : List OB) (j : Int)
abbrev SRa : List (Nat × Src) := [(0, .same), (1, .same)]
def vsRa (p : PRa) (a : ARa) : List V := [.ptr 0 0, iv p.i, iv a.j]
def bsRa (p : PRa) (a : ARa) : List Blk := [.cells 138 [iv p.w, iv p.g, .sub 1 1 0 p.n, iv p.nw, bv p.ov], .bx 20 141 145 [.int .i64, .int .i64, .bool] a.l [] none]
noncomputable def FRa (p : PRa) (a : ARa) : St := mkSt [0,1,4] (keysR SRa) 100 39 (vsRa p a) (bsRa p a)
noncomputable def rdRa (p : PRa) (a : ARa) : T (Ex × St) := T.anon (roundN R3 noLoops lpRa [0,1,4] SRa 100 100 (mkSt [0,1,4] (keysR SRa) 100 39 (vsRa p a) (bsRa p a)))
def decRa : List V → List Blk → Option (PRa × ARa)
  | [.ptr 0 0, .s (.int .i64 i), .s (.int .i64 j)], [.cells tt0 [.s (.int .i64 w), .s (.int .i64 g), .sub 1 1 0 n, .s (.int .i64 nw), .s (.bool ov)], .bx tt1 tt2 tt3 [.int .i64, .int .i64, .bool] l [] none] =>
    if tt0 = 138 then if tt1 = 20 then if tt2 = 141 then if tt3 = 145 then some (⟨w, g, n, nw, ov, i, l⟩, ⟨l, j⟩) else none else none else none else none
  | _, _ => none
theorem decRa_ok (l : List V) (b : List Blk) (d : PRa × ARa) (h : decRa l b = some d) : l = vsRa d.1 d.2 ∧ b = bsRa d.1 d.2 := by
  unfold decRa at h
  split at h
  · obtain ⟨e0, h⟩ := ite_some0 h
    obtain ⟨e1, h⟩ := ite_some0 h
    obtain ⟨e2, h⟩ := ite_some0 h
    obtain ⟨e3, h⟩ := ite_some0 h
    subst e0 e1 e2 e3
    cases h
    exact ⟨rfl, rfl⟩
  · cases h
noncomputable def rgRa : Nat := (firstReg lpRa).getD 0
theorem rgRa_is : firstReg lpRa = some rgRa := by kernel_rfl
end Go.Proofs.Ytheknddbbgjpkaa.Rin
