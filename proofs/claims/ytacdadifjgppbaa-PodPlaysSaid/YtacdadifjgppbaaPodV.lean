/- Layer 8: a pod's load; told. -/
import Derived.Test.YtacdadifjgppbaaPodU
namespace Go.Proofs.Ytacdadifjgppbaa.Pod
open Go.Eng Go.RowKit Go.Flt Lod Brk
set_option linter.unusedVariables false
set_option linter.unusedSimpArgs false
def loadS (args : List V) (h : Heap) : T V :=
  match args, h with
  | [.nilPtr], [] => .ret (cx 0 0)
  | args, h => arg0 args (heapR h fun id m t u s L D x y => .ret (cx x y))
theorem loadS_ok : SeeOk Try.prog 53 loadS := loadP_ok.see _ fun args h v hv hf => by
  unfold loadS at hv
  split at hv
  · obtain rfl := Option.some.inj hv
    have e : T.anon (loadP [.nilPtr] []) = .ret (cx 0 0, []) := by kernel_rfl
    refine ⟨rfl, ?_⟩
    rw [← T.eval_anon (t := loadP _ _)]
    exact congrArg T.eval e
  · obtain ⟨rfl, hv⟩ := arg0_some hv
    obtain ⟨id, m, t, u, s, L, D, x, y, rfl, hv⟩ := heapR_some hv
    obtain rfl := Option.some.inj hv
    have e : T.anon (loadP [.ptr 0 0] (rnH id m t u s L D x y)) = .ret (cx x y, rnH id m t u s L D x y) := by kernel_rfl
    refine ⟨rfl, ?_⟩
    rw [← T.eval_anon (t := loadP _ _)]
    exact congrArg T.eval e
theorem eS : EOk Try.prog [59] := ⟨⟨by kernel_rfl, by kernel_rfl⟩, trivial⟩
noncomputable def D4 : Cfg := ⟨Try.prog, lookG [(44, .obj newP.plain), (53, .see loadS), (45, .obj enterP.plain), (46, .obj leaveP.plain), (47, .obj statP.plain)], [59], 0⟩
theorem D4_ok : D4.Ok := Cfg.ok ⟨newP_ok.plain, loadS_ok, enterP_ok.plain, leaveP_ok.plain, statP_ok.plain, trivial⟩ eS
theorem told_run : (execS D4 noLoops 48 []).eval = some (.s (.bool true)) := by kernel_rfl
theorem told_ok : SpecOk Try.prog 48 yesD :=
  (execS_plain D4_ok mixed Try.func48 (by kernel_rfl) (by kernel_rfl)).of_den fun args v _ h => by
    unfold yesD at h
    split at h
    · simp only [T.eval, Option.some.injEq] at h
      subst h
      exact ⟨_, told_run, ⟨rfl, rfl⟩, rfl⟩
    · cases h
end Go.Proofs.Ytacdadifjgppbaa.Pod
