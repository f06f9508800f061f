/- Layer 5: RingPlays: its loop. -/
import Derived.Test.YtheknddbbgjpkaaRdD
namespace Go.Proofs.Ytheknddbbgjpkaa.Rin
open Go.Eng Go.RowKit Mil
set_option linter.unusedVariables false
set_option linter.unusedSimpArgs false
noncomputable def lpRp : Code := loopAt Try.prog 10 0
structure PRp where (q : Nat) (o : List (Int × Int × Int × Int))
structure ARp where (w : Int) (g : Int) (n : Nat) (nw : Int) (ov : Bool) (l : List OB) (wd : Int) (gd : Int) (nd : Nat) (nwd : Int) (ovd : Bool) (ld : List (Int × Int)) (i : Int)
abbrev SRp : List (Nat × Src) := [(0, .same), (1, .same), (2000, .cell 1 2), (9, .same), (2001, .cell 9 2)]
def vsRp (p : PRp) (a : ARp) : List V := [.sub 0 4 0 p.q, .ptr 1 0, .ptr 9 0, iv a.i]
def bsRp (p : PRp) (a : ARp) : List Blk := [.lst false 72 [.int .i64, .int .i64, .int .i64, .int .i64] p.o, .cells 138 [iv a.w, iv a.g, .sub 2000 1 0 a.n, iv a.nw, bv a.ov], .bx 20 141 145 [.int .i64, .int .i64, .bool] a.l [] none, .cells 78 [iv a.wd, iv a.gd, .sub 2001 2 0 a.nd, iv a.nwd, bv a.ovd], .lst true 86 [.int .i64, .int .i64] a.ld]
noncomputable def FRp (p : PRp) (a : ARp) : St := mkSt [2,7,8,9] (keysR SRp) 2002 138 (vsRp p a) (bsRp p a)
noncomputable def rdRp (p : PRp) (a : ARp) : T (Ex × St) := T.anon (roundN RQ noLoops lpRp [2,7,8,9] SRp 2000 2002 (mkSt [2,7,8,9] (keysR SRp) 2002 138 (vsRp p a) (bsRp p a)))
def decRp : List V → List Blk → Option (PRp × ARp)
  | [.sub 0 4 0 q, .ptr 1 0, .ptr 9 0, .s (.int .i64 i)], [.lst false tt0 [.int .i64, .int .i64, .int .i64, .int .i64] o, .cells tt1 [.s (.int .i64 w), .s (.int .i64 g), .sub 2000 1 0 n, .s (.int .i64 nw), .s (.bool ov)], .bx tt2 tt3 tt4 [.int .i64, .int .i64, .bool] l [] none, .cells tt5 [.s (.int .i64 wd), .s (.int .i64 gd), .sub 2001 2 0 nd, .s (.int .i64 nwd), .s (.bool ovd)], .lst true tt6 [.int .i64, .int .i64] ld] =>
    if tt0 = 72 then if tt1 = 138 then if tt2 = 20 then if tt3 = 141 then if tt4 = 145 then if tt5 = 78 then if tt6 = 86 then some (⟨q, o⟩, ⟨w, g, n, nw, ov, l, wd, gd, nd, nwd, ovd, ld, i⟩) else none else none else none else none else none else none else none
  | _, _ => none
theorem decRp_ok (l : List V) (b : List Blk) (d : PRp × ARp) (h : decRp l b = some d) : l = vsRp d.1 d.2 ∧ b = bsRp d.1 d.2 := by
  unfold decRp at h
  split at h
  · obtain ⟨e0, h⟩ := ite_some0 h
    obtain ⟨e1, h⟩ := ite_some0 h
    obtain ⟨e2, h⟩ := ite_some0 h
    obtain ⟨e3, h⟩ := ite_some0 h
    obtain ⟨e4, h⟩ := ite_some0 h
    obtain ⟨e5, h⟩ := ite_some0 h
    obtain ⟨e6, h⟩ := ite_some0 h
    subst e0 e1 e2 e3 e4 e5 e6
    cases h
    exact ⟨rfl, rfl⟩
  · cases h
noncomputable def rgRp : Nat := (firstReg lpRp).getD 0
theorem rgRp_is : firstReg lpRp = some rgRp := by kernel_rfl
end Go.Proofs.Ytheknddbbgjpkaa.Rin
