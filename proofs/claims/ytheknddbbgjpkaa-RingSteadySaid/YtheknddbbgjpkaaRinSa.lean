/- Layer 5: RingSteady: its loop. -/
import Derived.Test.YtheknddbbgjpkaaRinM
namespace Go.Proofs.Ytheknddbbgjpkaa.Rin
open Go.Eng Go.RowKit Mil
set_option linter.unusedVariables false
set_option linter.unusedSimpArgs false
noncomputable def lpRf : Code := loopAt Try.prog 12 0
structure PRf where (x : Int) (k : Int) (w : Int) (g : Int) (n : Nat)
structure ARf where (nw : Int) (ov : Bool) (l : List OB) (i : Int)
abbrev SRf : List (Nat × Src) := [(0, .same), (1, .same)]
def vsRf (p : PRf) (a : ARf) : List V := [.ptr 0 0, iv p.x, iv p.k, iv a.i]
def bsRf (p : PRf) (a : ARf) : List Blk := [.cells 138 [iv p.w, iv p.g, .sub 1 1 0 p.n, iv a.nw, bv a.ov], .bx 20 141 145 [.int .i64, .int .i64, .bool] a.l [] none]
noncomputable def FRf (p : PRf) (a : ARf) : St := mkSt [10,11,12,13] (keysR SRf) 100 94 (vsRf p a) (bsRf p a)
noncomputable def rdRf (p : PRf) (a : ARf) : T (Ex × St) := T.anon (roundN RL noLoops lpRf [10,11,12,13] SRf 100 100 (mkSt [10,11,12,13] (keysR SRf) 100 94 (vsRf p a) (bsRf p a)))
def decRf : List V → List Blk → Option (PRf × ARf)
  | [.ptr 0 0, .s (.int .i64 x), .s (.int .i64 k), .s (.int .i64 i)], [.cells tt0 [.s (.int .i64 w), .s (.int .i64 g), .sub 1 1 0 n, .s (.int .i64 nw), .s (.bool ov)], .bx tt1 tt2 tt3 [.int .i64, .int .i64, .bool] l [] none] =>
    if tt0 = 138 then if tt1 = 20 then if tt2 = 141 then if tt3 = 145 then some (⟨x, k, w, g, n⟩, ⟨nw, ov, l, i⟩) else none else none else none else none
  | _, _ => none
theorem decRf_ok (l : List V) (b : List Blk) (d : PRf × ARf) (h : decRf l b = some d) : l = vsRf d.1 d.2 ∧ b = bsRf d.1 d.2 := by
  unfold decRf at h
  split at h
  · obtain ⟨e0, h⟩ := ite_some0 h
    obtain ⟨e1, h⟩ := ite_some0 h
    obtain ⟨e2, h⟩ := ite_some0 h
    obtain ⟨e3, h⟩ := ite_some0 h
    subst e0 e1 e2 e3
    cases h
    exact ⟨rfl, rfl⟩
  · cases h
noncomputable def rgRf : Nat := (firstReg lpRf).getD 0
theorem rgRf_is : firstReg lpRf = some rgRf := by kernel_rfl
end Go.Proofs.Ytheknddbbgjpkaa.Rin
