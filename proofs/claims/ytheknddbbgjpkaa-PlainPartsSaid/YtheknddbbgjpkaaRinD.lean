/- Layer 5: the ring's Sum: its loop. -/
import Derived.Test.YtheknddbbgjpkaaRinC
namespace Go.Proofs.Ytheknddbbgjpkaa.Rin
open Go.Eng Go.RowKit Mil
set_option linter.unusedVariables false
set_option linter.unusedSimpArgs false
noncomputable def R5 : Cfg := ⟨Try.prog, lookG [(90, .see madeS), (92, .see sizeS), (94, .obj joinR0)], [], 0⟩
theorem R5_ok : R5.Ok := Cfg.ok ⟨madeS_ok, sizeS_ok, joinR0_ok, trivial⟩ trivial
noncomputable def lpRb : Code := loopAt Try.prog 45 0
structure PRb where (w : Int) (g : Int) (n : Nat) (nw : Int) (ov : Bool) (la : Int) (l0 : List OB) (j0 : Int)
structure ARb where (l : List OB) (s : Int) (c : Int) (k : Bool) (j : Int)
abbrev SRb : List (Nat × Src) := [(0, .same), (1, .same), (122, .same)]
def vsRb (p : PRb) (a : ARb) : List V := [.ptr 0 0, iv p.la, .ptr 122 0, iv a.j]
def bsRb (p : PRb) (a : ARb) : List Blk := [.cells 138 [iv p.w, iv p.g, .sub 1 1 0 p.n, iv p.nw, bv p.ov], .bx 20 141 145 [.int .i64, .int .i64, .bool] a.l [] none, .cells 145 [iv a.s, iv a.c, bv a.k]]
noncomputable def FRb (p : PRb) (a : ARb) : St := mkSt [0,6,8,9] (keysR SRb) 200 81 (vsRb p a) (bsRb p a)
noncomputable def rdRb (p : PRb) (a : ARb) : T (Ex × St) := T.anon (roundN R5 noLoops lpRb [0,6,8,9] SRb 200 200 (mkSt [0,6,8,9] (keysR SRb) 200 81 (vsRb p a) (bsRb p a)))
def decRb : List V → List Blk → Option (PRb × ARb)
  | [.ptr 0 0, .s (.int .i64 la), .ptr 122 0, .s (.int .i64 j)], [.cells tt0 [.s (.int .i64 w), .s (.int .i64 g), .sub 1 1 0 n, .s (.int .i64 nw), .s (.bool ov)], .bx tt1 tt2 tt3 [.int .i64, .int .i64, .bool] l [] none, .cells tt4 [.s (.int .i64 s), .s (.int .i64 c), .s (.bool k)]] =>
    if tt0 = 138 then if tt1 = 20 then if tt2 = 141 then if tt3 = 145 then if tt4 = 145 then some (⟨w, g, n, nw, ov, la, l, j⟩, ⟨l, s, c, k, j⟩) else none else none else none else none else none
  | _, _ => none
theorem decRb_ok (l : List V) (b : List Blk) (d : PRb × ARb) (h : decRb l b = some d) : l = vsRb d.1 d.2 ∧ b = bsRb d.1 d.2 := by
  unfold decRb at h
  split at h
  · obtain ⟨e0, h⟩ := ite_some0 h
    obtain ⟨e1, h⟩ := ite_some0 h
    obtain ⟨e2, h⟩ := ite_some0 h
    obtain ⟨e3, h⟩ := ite_some0 h
    obtain ⟨e4, h⟩ := ite_some0 h
    subst e0 e1 e2 e3 e4
    cases h
    exact ⟨rfl, rfl⟩
  · cases h
noncomputable def rgRb : Nat := (firstReg lpRb).getD 0
theorem rgRb_is : firstReg lpRb = some rgRb := by kernel_rfl
end Go.Proofs.Ytheknddbbgjpkaa.Rin
