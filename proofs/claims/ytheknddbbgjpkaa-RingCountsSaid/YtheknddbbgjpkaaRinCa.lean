/- Layer 5: RingCounts: its inner loop. -/
import Derived.Test.YtheknddbbgjpkaaRinM
namespace Go.Proofs.Ytheknddbbgjpkaa.Rin
open Go.Eng Go.RowKit Mil
set_option linter.unusedVariables false
set_option linter.unusedSimpArgs false
noncomputable def lpCo : Code := loopAt Try.prog 13 0
noncomputable def lpRh : Code := (loopsIn lpCo).getD 0 .skip
structure PRh where (kq : Nat) (w0 : Int) (m : Nat) (i : Int) (q : List Int) (w : Int) (g : Int) (n : Nat) (nw : Int) (ov : Bool) (l : List OB) (v : List Int) (j0 : Int)
structure ARh where (want : Int) (c : Int) (j : Int)
abbrev SRh : List (Nat × Src) := [(0, .same), (1, .same), (2, .same), (2000, .tmp 7)]
def vsRh (p : PRh) (a : ARh) : List V := [.sub 0 1 0 p.kq, iv p.w0, .ptr 1 0, .sub 2000 1 0 p.m, iv p.i, iv a.want, iv a.c, iv a.j]
def bsRh (p : PRh) (a : ARh) : List Blk := [.lst false 2 [.int .i64] p.q, .cells 138 [iv p.w, iv p.g, .sub 2 1 0 p.n, iv p.nw, bv p.ov], .bx 20 141 145 [.int .i64, .int .i64, .bool] p.l [] none, .lst true 2 [.int .i64] p.v]
noncomputable def FRh (p : PRh) (a : ARh) : St := mkSt [1,5,6,7,8,9,10,11] (keysR SRh) 2001 98 (vsRh p a) (bsRh p a)
noncomputable def rdRh (p : PRh) (a : ARh) : T (Ex × St) := T.anon (roundN RL noLoops lpRh [1,5,6,7,8,9,10,11] SRh 2000 2001 (mkSt [1,5,6,7,8,9,10,11] (keysR SRh) 2001 98 (vsRh p a) (bsRh p a)))
def decRh : List V → List Blk → Option (PRh × ARh)
  | [.sub 0 1 0 kq, .s (.int .i64 w0), .ptr 1 0, .sub 2000 1 0 m, .s (.int .i64 i), .s (.int .i64 want), .s (.int .i64 c), .s (.int .i64 j)], [.lst false tt0 [.int .i64] q, .cells tt1 [.s (.int .i64 w), .s (.int .i64 g), .sub 2 1 0 n, .s (.int .i64 nw), .s (.bool ov)], .bx tt2 tt3 tt4 [.int .i64, .int .i64, .bool] l [] none, .lst true tt5 [.int .i64] v] =>
    if tt0 = 2 then if tt1 = 138 then if tt2 = 20 then if tt3 = 141 then if tt4 = 145 then if tt5 = 2 then some (⟨kq, w0, m, i, q, w, g, n, nw, ov, l, v, j⟩, ⟨want, c, j⟩) else none else none else none else none else none else none
  | _, _ => none
theorem decRh_ok (l : List V) (b : List Blk) (d : PRh × ARh) (h : decRh l b = some d) : l = vsRh d.1 d.2 ∧ b = bsRh d.1 d.2 := by
  unfold decRh at h
  split at h
  · obtain ⟨e0, h⟩ := ite_some0 h
    obtain ⟨e1, h⟩ := ite_some0 h
    obtain ⟨e2, h⟩ := ite_some0 h
    obtain ⟨e3, h⟩ := ite_some0 h
    obtain ⟨e4, h⟩ := ite_some0 h
    obtain ⟨e5, h⟩ := ite_some0 h
    subst e0 e1 e2 e3 e4 e5
    cases h
    exact ⟨rfl, rfl⟩
  · cases h
noncomputable def rgRh : Nat := (firstReg lpRh).getD 0
theorem rgRh_is : firstReg lpRh = some rgRh := by kernel_rfl
end Go.Proofs.Ytheknddbbgjpkaa.Rin
