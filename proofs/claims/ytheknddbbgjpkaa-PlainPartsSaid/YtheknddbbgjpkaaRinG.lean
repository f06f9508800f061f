/- Layer 5: the ring's Resize: its loop's states. -/
import Derived.Test.YtheknddbbgjpkaaRinF
namespace Go.Proofs.Ytheknddbbgjpkaa.Rin
open Go.Eng Go.RowKit Mil
set_option linter.unusedVariables false
set_option linter.unusedSimpArgs false
noncomputable def R8 : Cfg := ⟨Try.prog, lookG [(90, .see madeS), (92, .see sizeS), (89, .val bucketsR)], EB, 0⟩
theorem R8_ok : R8.Ok := Cfg.ok ⟨madeS_ok, sizeS_ok, bucketsR_ok, trivial⟩ EB_ok
noncomputable def lpRc : Code := loopAt Try.prog 52 0
structure PRc where (w : Int) (g : Int) (n : Nat) (nw : Int) (ov : Bool) (x : Int) (m : Nat) (s : Int) (l : List OB) (j0 : Int)
structure ARc where (q : List Nat) (k : List OB) (j : Int)
abbrev SRc : List (Nat × Src) := [(0, .same), (1, .same), (42, .same)]
def vsRc (p : PRc) (a : ARc) : List V := [.ptr 0 0, iv p.x, .sub 42 1 0 p.m, iv p.s, iv a.j]
def bsRc (p : PRc) (a : ARc) : List Blk := [.cells 138 [iv p.w, iv p.g, .sub 1 1 0 p.n, iv p.nw, bv p.ov], .bx 20 141 145 [.int .i64, .int .i64, .bool] p.l a.q none, .bx 20 141 145 [.int .i64, .int .i64, .bool] a.k [] none]
noncomputable def FRc (p : PRc) (a : ARc) : St := mkSt [0,1,5,6,7] (keysR SRc) 150 72 (vsRc p a) (bsRc p a)
noncomputable def rdRc (p : PRc) (a : ARc) : T (Ex × St) := T.anon (roundN R8 noLoops lpRc [0,1,5,6,7] SRc 150 150 (mkSt [0,1,5,6,7] (keysR SRc) 150 72 (vsRc p a) (bsRc p a)))
def decRc : List V → List Blk → Option (PRc × ARc)
  | [.ptr 0 0, .s (.int .i64 x), .sub 42 1 0 m, .s (.int .i64 s), .s (.int .i64 j)], [.cells tt0 [.s (.int .i64 w), .s (.int .i64 g), .sub 1 1 0 n, .s (.int .i64 nw), .s (.bool ov)], .bx tt1 tt2 tt3 [.int .i64, .int .i64, .bool] l q none, .bx tt4 tt5 tt6 [.int .i64, .int .i64, .bool] k [] none] =>
    if tt0 = 138 then if tt1 = 20 then if tt2 = 141 then if tt3 = 145 then if tt4 = 20 then if tt5 = 141 then if tt6 = 145 then some (⟨w, g, n, nw, ov, x, m, s, l, j⟩, ⟨q, k, j⟩) else none else none else none else none else none else none else none
  | _, _ => none
theorem decRc_ok (l : List V) (b : List Blk) (d : PRc × ARc) (h : decRc l b = some d) : l = vsRc d.1 d.2 ∧ b = bsRc d.1 d.2 := by
  unfold decRc at h
  split at h
  · obtain ⟨e0, h⟩ := ite_some0 h
    obtain ⟨e1, h⟩ := ite_some0 h
    obtain ⟨e2, h⟩ := ite_some0 h
    obtain ⟨e3, h⟩ := ite_some0 h
    obtain ⟨e4, h⟩ := ite_some0 h
    obtain ⟨e5, h⟩ := ite_some0 h
    obtain ⟨e6, h⟩ := ite_some0 h
    subst e0 e1 e2 e3 e4 e5 e6
    cases h
    exact ⟨rfl, rfl⟩
  · cases h
noncomputable def rgRc : Nat := (firstReg lpRc).getD 0
theorem rgRc_is : firstReg lpRc = some rgRc := by kernel_rfl
end Go.Proofs.Ytheknddbbgjpkaa.Rin
