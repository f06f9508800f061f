/- Layer 5: what the ring tells of a few: closed runs. -/
import Derived.Test.YtheknddbbgjpkaaRinH
namespace Go.Proofs.Ytheknddbbgjpkaa.Rin
open Go.Eng Go.RowKit Mil
set_option linter.unusedVariables false
set_option linter.unusedSimpArgs false
noncomputable def reachT : Eng.Obj := execO R3 (rounds R3 64 1) 91
theorem reachT_ok : ObjOk Try.prog 91 reachT := execO_rounds R3_ok mixed 64 1 Try.func91 (by kernel_rfl) (by kernel_rfl)
noncomputable def RT4 : Cfg := ⟨Try.prog, lookG [(90, .see madeS), (92, .see sizeS), (91, .obj reachT.plain), (93, .obj bucketR0.plain), (94, .obj joinR0.plain)], [], 0⟩
theorem RT4_ok : RT4.Ok := Cfg.ok ⟨madeS_ok, sizeS_ok, reachT_ok.plain, bucketR0_ok.plain, joinR0_ok.plain, trivial⟩ trivial
noncomputable def putT0 : Eng.Obj := execO RT4 noLoops 44
theorem putT0_ok : ObjOk Try.prog 44 putT0 := execO_plain RT4_ok mixed Try.func44 (by kernel_rfl) (by kernel_rfl)
noncomputable def putT : Eng.Obj := fun args h0 => (putT0 args h0).bind (settleO 1 h0)
theorem putT_ok : ObjOk Try.prog 44 putT := putT0_ok.settle 1
noncomputable def RT5 : Cfg := ⟨Try.prog, lookG [(90, .see madeS), (92, .see sizeS), (94, .obj joinR0.plain)], [], 0⟩
theorem RT5_ok : RT5.Ok := Cfg.ok ⟨madeS_ok, sizeS_ok, joinR0_ok.plain, trivial⟩ trivial
noncomputable def sumT : Eng.Obj := execO RT5 (rounds RT5 64 1) 45
theorem sumT_ok : ObjOk Try.prog 45 sumT := execO_rounds RT5_ok mixed 64 1 Try.func45 (by kernel_rfl) (by kernel_rfl)
noncomputable def RT6 : Cfg := ⟨Try.prog, lookG [(45, .obj sumT.plain)], [], 0⟩
theorem RT6_ok : RT6.Ok := Cfg.ok ⟨sumT_ok.plain, trivial⟩ trivial
noncomputable def meanT : Eng.Obj := execO RT6 noLoops 50
theorem meanT_ok : ObjOk Try.prog 50 meanT := execO_plain RT6_ok mixed Try.func50 (by kernel_rfl) (by kernel_rfl)
noncomputable def resT0 : Eng.Obj := execO R8 (rounds R8 64 1) 52
theorem resT0_ok : ObjOk Try.prog 52 resT0 := execO_rounds R8_ok mixed 64 1 Try.func52 (by kernel_rfl) (by kernel_rfl)
noncomputable def resT : Eng.Obj := fun args h0 => (resT0 args h0).bind (tidyO 1 h0)
theorem resT_ok : ObjOk Try.prog 52 resT := resT0_ok.tidy 1
noncomputable def RTJ : Cfg := ⟨Try.prog, lookG [(43, .obj (Eng.Obj.plain newR1)), (44, .obj (Eng.Obj.plain putT)), (45, .obj (Eng.Obj.plain sumT)), (50, .obj (Eng.Obj.plain meanT)), (54, .obj (Eng.Obj.plain siR0)), (52, .obj (Eng.Obj.plain resT)), (56, .see ovS)], [], 0⟩
theorem RTJ_ok : RTJ.Ok := Cfg.ok ⟨newR1_ok.plain, putT_ok.plain, sumT_ok.plain, meanT_ok.plain, siR0_ok.plain, resT_ok.plain, ovS_ok, trivial⟩ trivial
noncomputable def toldR : T V := execS RTJ noLoops 46 []
theorem told_run : toldR.eval = some (.s (.bool true)) := by kernel_rfl
def yesR : Eng.Spec := fun args => match args with
  | [] => .ret .tt
  | _ => .fail
theorem told_ok : SpecOk Try.prog 46 yesR :=
  (execS_plain RTJ_ok mixed Try.func46 (by kernel_rfl) (by kernel_rfl)).of_den fun args v _ h => by
    unfold yesR at h
    split at h
    · simp only [T.eval, Option.some.injEq] at h
      subst h
      exact ⟨_, told_run, ⟨rfl, rfl⟩, rfl⟩
    · cases h
end Go.Proofs.Ytheknddbbgjpkaa.Rin
