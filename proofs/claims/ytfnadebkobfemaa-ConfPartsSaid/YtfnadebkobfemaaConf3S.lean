/- Layer 3's own: what is told of a few; the laws by the machine. -/
import Derived.Test.YtfnadebkobfemaaConfS
namespace Go.Proofs.Ytfnadebkobfemaa.Conf
open Go.Eng Go.RowKit Mil
set_option linter.unusedVariables false
set_option linter.unusedSimpArgs false

noncomputable def C3 : Cfg := ⟨Try.prog, lookG [(48, wrongS), (49, mayS), (81, mostS), (80, perS), (44, dfltS), (66, dfltS)], [59], 0⟩
theorem C3_ok : C3.Ok := Cfg.ok ⟨wrong_ok, may_ok, most_ok, per_ok, dflt_ok, refdflt_ok, trivial⟩ ⟨⟨by kernel_rfl, by kernel_rfl⟩, trivial⟩
def toldS : Eng.Spec
  | [] => .ret .tt
  | _ => .fail
theorem told_ok : SpecOk Try.prog 47 toldS := by
  refine (execS_plain C3_ok mixed Try.func47 (by kernel_rfl) (by kernel_rfl)).of_den fun args v hfl h => ?_
  clear hfl
  unfold toldS at h
  split at h
  · obtain rfl := Option.some.inj h
    have e : (execS C3 noLoops 47 []).eval = some (.s (.bool true)) := by kernel_rfl
    exact ⟨_, e, ⟨rfl, rfl⟩, rfl⟩
  · cases h
noncomputable def C4 : Cfg := ⟨Try.prog, lookG [(47, toldS), (48, wrongS), (49, mayS), (81, mostS), (80, perS), (44, dfltS), (66, dfltS)], [59], 0⟩
theorem C4_ok : C4.Ok := Cfg.ok ⟨told_ok, wrong_ok, may_ok, most_ok, per_ok, dflt_ok, refdflt_ok, trivial⟩ ⟨⟨by kernel_rfl, by kernel_rfl⟩, trivial⟩
end Go.Proofs.Ytfnadebkobfemaa.Conf
