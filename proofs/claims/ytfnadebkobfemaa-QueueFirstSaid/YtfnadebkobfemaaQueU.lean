/- Layer 20: All. -/
import Derived.Test.YtfnadebkobfemaaQueT
namespace Go.Proofs.Ytfnadebkobfemaa.Que
open Go.Eng Go.RowKit
set_option linter.unusedVariables false
set_option linter.unusedSimpArgs false
noncomputable def lqA : Code := loopAt Try.prog 23 0
structure PA where (d : Int) (u : Option Int) (n : Nat) (l : List (Int × Int)) (k : Nat) (c : Int)
structure AA where (W : List Int) (j : Nat) (i : Int)
abbrev SA : List (Nat × Src) := [(0, .same), (1, .same), (1000, .tmp 3)]
def rWt (l : List (Int × Int)) : Blk := .lst true 103 KW l
def vsA (p : PA) (a : AA) : List V := [.ptr 0 0, .sub 1000 1 0 a.j, .sub 1 2 0 p.k, iv p.c, iv a.i]
def bsA (p : PA) (a : AA) : List Blk := [qB p.d (lastV p.u) p.n, rWt p.l, .lst true 3 [.int .i64] a.W]
noncomputable def FA (p : PA) (a : AA) : St := mkSt [0,3,17,18,19] [0,1,1000] 1001 31 (vsA p a) (bsA p a)
noncomputable def rdA (p : PA) (a : AA) : T (Ex × St) := T.anon (roundN J0 noLoops lqA [0,3,17,18,19] SA 1000 1001 (mkSt [0,3,17,18,19] (keysR SA) 1001 31 (vsA p a) (bsA p a)))
def decA : List V → List Blk → Option (PA × AA)
  | [.ptr 0 0, .sub 1000 1 0 j, .sub 1 2 0 k, .s (.int .i64 c), .s (.int .i64 i)], [.cells t0 [.s (.int .i64 d), .nilIface, .sub 1 2 0 n], .lst true t1 [.int .i64, .int .i64] l, .lst true t2 [.int .i64] W] =>
    if t0 = 100 then if t1 = 103 then if t2 = 3 then some (⟨d, none, n, l, k, c⟩, ⟨W, j, i⟩) else none else none else none
  | [.ptr 0 0, .sub 1000 1 0 j, .sub 1 2 0 k, .s (.int .i64 c), .s (.int .i64 i)], [.cells t0 [.s (.int .i64 d), .iface ti (.s (.int .i64 u)), .sub 1 2 0 n], .lst true t1 [.int .i64, .int .i64] l, .lst true t2 [.int .i64] W] =>
    if ti = 2 then if t0 = 100 then if t1 = 103 then if t2 = 3 then some (⟨d, some u, n, l, k, c⟩, ⟨W, j, i⟩) else none else none else none else none
  | _, _ => none
theorem decA_ok (l : List V) (b : List Blk) (d : PA × AA) (h : decA l b = some d) : l = vsA d.1 d.2 ∧ b = bsA d.1 d.2 := by
  unfold decA at h
  split at h
  · split at h
    · rename_i ht0
      split at h
      · rename_i ht1
        split at h
        · rename_i ht2
          subst ht0 ht1 ht2
          cases h
          exact ⟨rfl, rfl⟩
        · cases h
      · cases h
    · cases h
  · split at h
    · rename_i hti
      split at h
      · rename_i ht0
        split at h
        · rename_i ht1
          split at h
          · rename_i ht2
            subst hti ht0 ht1 ht2
            cases h
            exact ⟨rfl, rfl⟩
          · cases h
        · cases h
      · cases h
    · cases h
  · cases h
end Go.Proofs.Ytfnadebkobfemaa.Que
