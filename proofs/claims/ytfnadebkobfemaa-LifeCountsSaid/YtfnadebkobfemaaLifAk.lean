/- Layer 21: LifeCounts: its inner loops. -/
import Derived.Test.YtfnadebkobfemaaLifAj
namespace Go.Proofs.Ytfnadebkobfemaa.Lif
open Go.Eng Go.RowKit
set_option linter.unusedVariables false
set_option linter.unusedSimpArgs false
noncomputable def lpC0 : Code := loopAt Try.prog 6 0
noncomputable def lpCa : Code := (loopsIn lpC0).getD 0 .skip
structure PCa where (g : List Int) (kg : Nat) (h : List Int) (kh : Nat) (i : Int) (k : Int) (q : Nat) (r : List Int) (m : Int) (b0 : Int) (l0 : List R4)
structure ACa where (b : Int) (n : Nat) (l : List R4) (j : Int)
abbrev SCa : List (Nat × Src) := [(0, .same), (1, .same), (2, .same), (3000, .cell 2 1), (3001, .tmp 9)]
def vsCa (p : PCa) (a : ACa) : List V := [.sub 0 1 0 p.kg, .sub 1 1 0 p.kh, .ptr 2 0, iv a.b, iv p.i, .sub 3001 1 0 p.q, iv p.k, iv a.j]
def bsCa (p : PCa) (a : ACa) : List Blk := [.lst false 3 [.int .i64] p.g, .lst false 3 [.int .i64] p.h, .cells 108 [iv p.m, .sub 3000 4 0 a.n], .lst true 39 [.int .i64, .int .i64, .int .i64, .int .i64] a.l, .lst true 3 [.int .i64] p.r]
noncomputable def FCa (p : PCa) (a : ACa) : St := mkSt [0,1,5,6,7,9,10,11] (keysR SCa) 3002 171 (vsCa p a) (bsCa p a)
noncomputable def rdCa (p : PCa) (a : ACa) : T (Ex × St) := T.anon (roundN JL noLoops lpCa [0,1,5,6,7,9,10,11] SCa 3000 3002 (mkSt [0,1,5,6,7,9,10,11] (keysR SCa) 3002 171 (vsCa p a) (bsCa p a)))
def decCa : List V → List Blk → Option (PCa × ACa)
  | [.sub 0 1 0 kg, .sub 1 1 0 kh, .ptr 2 0, .s (.int .i64 b), .s (.int .i64 i), .sub 3001 1 0 q, .s (.int .i64 k), .s (.int .i64 j)], [.lst false tt0 [.int .i64] g, .lst false tt1 [.int .i64] h, .cells tt2 [.s (.int .i64 m), .sub 3000 4 0 n], .lst true tt3 [.int .i64, .int .i64, .int .i64, .int .i64] l, .lst true tt4 [.int .i64] r] =>
    if tt0 = 3 then if tt1 = 3 then if tt2 = 108 then if tt3 = 39 then if tt4 = 3 then some (⟨g, kg, h, kh, i, k, q, r, m, b, l⟩, ⟨b, n, l, j⟩) else none else none else none else none else none
  | _, _ => none
theorem decCa_ok (l : List V) (b : List Blk) (d : PCa × ACa) (h : decCa l b = some d) : l = vsCa d.1 d.2 ∧ b = bsCa d.1 d.2 := by
  unfold decCa at h
  split at h
  · obtain ⟨e0, h⟩ := ite_some0 h
    obtain ⟨e1, h⟩ := ite_some0 h
    obtain ⟨e2, h⟩ := ite_some0 h
    obtain ⟨e3, h⟩ := ite_some0 h
    obtain ⟨e4, h⟩ := ite_some0 h
    subst e0 e1 e2 e3 e4
    cases h
    exact ⟨rfl, rfl⟩
  · cases h
noncomputable def rgCa : Nat := (firstReg lpCa).getD 0
theorem rgCa_is : firstReg lpCa = some rgCa := by kernel_rfl
noncomputable def lpCb : Code := (loopsIn lpC0).getD 1 .skip
structure PCb where (g : List Int) (kg : Nat) (h : List Int) (kh : Nat) (i : Int) (b : Int) (q : Nat) (p : List R4) (m : Int) (n : Nat) (l : List R4)
structure ACb where (s : Int) (t : Int) (j : Int)
abbrev SCb : List (Nat × Src) := [(0, .same), (1, .same), (2, .same), (4000, .cell 2 1), (4001, .tmp 12)]
def vsCb (p : PCb) (a : ACb) : List V := [.sub 0 1 0 p.kg, .sub 1 1 0 p.kh, .ptr 2 0, iv p.b, iv p.i, .sub 4001 4 0 p.q, iv a.s, iv a.t, iv a.j]
def bsCb (p : PCb) (a : ACb) : List Blk := [.lst false 3 [.int .i64] p.g, .lst false 3 [.int .i64] p.h, .cells 108 [iv p.m, .sub 4000 4 0 p.n], .lst true 39 [.int .i64, .int .i64, .int .i64, .int .i64] p.l, .lst true 39 [.int .i64, .int .i64, .int .i64, .int .i64] p.p]
noncomputable def FCb (p : PCb) (a : ACb) : St := mkSt [0,1,5,6,7,12,14,15,16] (keysR SCb) 4002 171 (vsCb p a) (bsCb p a)
noncomputable def rdCb (p : PCb) (a : ACb) : T (Ex × St) := T.anon (roundN JL noLoops lpCb [0,1,5,6,7,12,14,15,16] SCb 4000 4002 (mkSt [0,1,5,6,7,12,14,15,16] (keysR SCb) 4002 171 (vsCb p a) (bsCb p a)))
def decCb : List V → List Blk → Option (PCb × ACb)
  | [.sub 0 1 0 kg, .sub 1 1 0 kh, .ptr 2 0, .s (.int .i64 b), .s (.int .i64 i), .sub 4001 4 0 q, .s (.int .i64 s), .s (.int .i64 t), .s (.int .i64 j)], [.lst false tt0 [.int .i64] g, .lst false tt1 [.int .i64] h, .cells tt2 [.s (.int .i64 m), .sub 4000 4 0 n], .lst true tt3 [.int .i64, .int .i64, .int .i64, .int .i64] l, .lst true tt4 [.int .i64, .int .i64, .int .i64, .int .i64] p] =>
    if tt0 = 3 then if tt1 = 3 then if tt2 = 108 then if tt3 = 39 then if tt4 = 39 then some (⟨g, kg, h, kh, i, b, q, p, m, n, l⟩, ⟨s, t, j⟩) else none else none else none else none else none
  | _, _ => none
theorem decCb_ok (l : List V) (b : List Blk) (d : PCb × ACb) (h : decCb l b = some d) : l = vsCb d.1 d.2 ∧ b = bsCb d.1 d.2 := by
  unfold decCb at h
  split at h
  · obtain ⟨e0, h⟩ := ite_some0 h
    obtain ⟨e1, h⟩ := ite_some0 h
    obtain ⟨e2, h⟩ := ite_some0 h
    obtain ⟨e3, h⟩ := ite_some0 h
    obtain ⟨e4, h⟩ := ite_some0 h
    subst e0 e1 e2 e3 e4
    cases h
    exact ⟨rfl, rfl⟩
  · cases h
noncomputable def rgCb : Nat := (firstReg lpCb).getD 0
theorem rgCb_is : firstReg lpCb = some rgCb := by kernel_rfl
end Go.Proofs.Ytfnadebkobfemaa.Lif
