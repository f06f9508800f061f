/- Layer 5: RingResizes: its first loop. -/
import Derived.Test.YtheknddbbgjpkaaRinM
namespace Go.Proofs.Ytheknddbbgjpkaa.Rin
open Go.Eng Go.RowKit Mil
set_option linter.unusedVariables false
set_option linter.unusedSimpArgs false
noncomputable def lpRd : Code := loopAt Try.prog 16 0
structure PRd where (x : Int) (y : Int) (k : Int) (w : Int) (g : Int) (n : Nat) (ov : Bool) (nw0 : Int) (l0 : List OB) (i0 : Int)
structure ARd where (nw : Int) (l : List OB) (i : Int)
abbrev SRd : List (Nat × Src) := [(0, .same), (1, .same)]
def vsRd (p : PRd) (a : ARd) : List V := [iv p.x, iv p.y, iv p.k, .ptr 0 0, iv a.i]
def bsRd (p : PRd) (a : ARd) : List Blk := [.cells 138 [iv p.w, iv p.g, .sub 1 1 0 p.n, iv a.nw, bv p.ov], .bx 20 141 145 [.int .i64, .int .i64, .bool] a.l [] none]
noncomputable def FRd (p : PRd) (a : ARd) : St := mkSt [7,8,9,10,11] (keysR SRd) 100 99 (vsRd p a) (bsRd p a)
noncomputable def rdRd (p : PRd) (a : ARd) : T (Ex × St) := T.anon (roundN RL noLoops lpRd [7,8,9,10,11] SRd 100 100 (mkSt [7,8,9,10,11] (keysR SRd) 100 99 (vsRd p a) (bsRd p a)))
def decRd : List V → List Blk → Option (PRd × ARd)
  | [.s (.int .i64 x), .s (.int .i64 y), .s (.int .i64 k), .ptr 0 0, .s (.int .i64 i)], [.cells tt0 [.s (.int .i64 w), .s (.int .i64 g), .sub 1 1 0 n, .s (.int .i64 nw), .s (.bool ov)], .bx tt1 tt2 tt3 [.int .i64, .int .i64, .bool] l [] none] =>
    if tt0 = 138 then if tt1 = 20 then if tt2 = 141 then if tt3 = 145 then some (⟨x, y, k, w, g, n, ov, nw, l, i⟩, ⟨nw, l, i⟩) else none else none else none else none
  | _, _ => none
theorem decRd_ok (l : List V) (b : List Blk) (d : PRd × ARd) (h : decRd l b = some d) : l = vsRd d.1 d.2 ∧ b = bsRd d.1 d.2 := by
  unfold decRd at h
  split at h
  · obtain ⟨e0, h⟩ := ite_some0 h
    obtain ⟨e1, h⟩ := ite_some0 h
    obtain ⟨e2, h⟩ := ite_some0 h
    obtain ⟨e3, h⟩ := ite_some0 h
    subst e0 e1 e2 e3
    cases h
    exact ⟨rfl, rfl⟩
  · cases h
noncomputable def rgRd : Nat := (firstReg lpRd).getD 0
theorem rgRd_is : firstReg lpRd = some rgRd := by kernel_rfl
end Go.Proofs.Ytheknddbbgjpkaa.Rin
