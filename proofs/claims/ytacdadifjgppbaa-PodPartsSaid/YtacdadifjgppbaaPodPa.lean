/- Layer 8: the states of the loop of PodParts. -/
import Derived.Test.YtacdadifjgppbaaPodSc
namespace Go.Proofs.Ytacdadifjgppbaa.Pod
open Go.Eng Go.RowKit Go.Flt Lod Brk
set_option linter.unusedVariables false
set_option linter.unusedSimpArgs false
noncomputable def pq1 : Code := loopAt Try.prog 15 0
abbrev SQ : List (Nat × Src) := [(0, .same), (1, .same), (8, .same), (9, .same)]
structure PQ where (X Y Z id m L D id' m' L' D' : Int)
structure AQ where (x y : Nat) (t u s : Int) (x' y' : Nat) (t' u' s' i : Int)
def vsQ (p : PQ) (a : AQ) : List V := [iv p.X, iv p.Y, iv p.Z, .ptr 0 0, .ptr 8 0, iv a.i]
def bsQ (p : PQ) (a : AQ) : List Blk := [rnQ 1 p.id p.m a.t a.u a.s, bkB p.L p.D a.x a.y, rnQ 9 p.id' p.m' a.t' a.u' a.s', bkB p.L' p.D' a.x' a.y']
noncomputable def FQ (p : PQ) (a : AQ) : St := mkSt [7,8,9,10,11,12] [0,1,8,9] 1000 114 (vsQ p a) (bsQ p a)
def decQ : List V → List Blk → Option (PQ × AQ)
  | [.s (.int .i64 X), .s (.int .i64 Y), .s (.int .i64 Z), .ptr 0 0, .ptr 8 0, .s (.int .i64 i)], [.cells t1 [.s (.int .i64 id), .ptr 1 0, .s (.int .i64 m), .s (.int .i64 t), .s (.int .i64 u), .s (.int .i64 s)], .cells t2 [.s (.int .i64 L), .s (.int .i64 D), .s (.cx .f64 x y)],
      .cells t3 [.s (.int .i64 id'), .ptr 9 0, .s (.int .i64 m'), .s (.int .i64 t'), .s (.int .i64 u'), .s (.int .i64 s')], .cells t4 [.s (.int .i64 L'), .s (.int .i64 D'), .s (.cx .f64 x' y')]] =>
    if t1 = 78 then if t2 = 76 then if t3 = 78 then if t4 = 76 then some (⟨X, Y, Z, id, m, L, D, id', m', L', D'⟩, ⟨x, y, t, u, s, x', y', t', u', s', i⟩) else none else none else none else none
  | _, _ => none
theorem decQ_ok (l : List V) (b : List Blk) (d : PQ × AQ) (h : decQ l b = some d) : l = vsQ d.1 d.2 ∧ b = bsQ d.1 d.2 := by
  unfold decQ at h
  split at h
  · split at h
    · rename_i ht1
      split at h
      · rename_i ht2
        split at h
        · rename_i ht3
          split at h
          · rename_i ht4
            subst ht1 ht2 ht3 ht4
            cases h
            exact ⟨rfl, rfl⟩
          · cases h
        · cases h
      · cases h
    · cases h
  · cases h
end Go.Proofs.Ytacdadifjgppbaa.Pod
