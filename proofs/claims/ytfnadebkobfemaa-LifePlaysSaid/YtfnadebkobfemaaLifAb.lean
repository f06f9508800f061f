/- Layer 21: what the statements call. -/
import Derived.Test.YtfnadebkobfemaaLifAa
import Derived.Test.YtfnadebkobfemaaLaw5
namespace Go.Proofs.Ytfnadebkobfemaa.Lif
open Go.Eng Go.RowKit
set_option linter.unusedVariables false
set_option linter.unusedSimpArgs false
def yesD : Eng.Spec := fun args => match args with
  | [] => .ret .tt
  | _ => .fail
theorem told_ok : SpecOk Try.prog 32 yesD :=
  (execS_plain JT_ok mixed Try.func32 (by kernel_rfl) (by kernel_rfl)).of_den fun args v _ h => by
    unfold yesD at h
    split at h
    · simp only [T.eval, Option.some.injEq] at h
      subst h
      exact ⟨_, told_run, ⟨rfl, rfl⟩, rfl⟩
    · cases h
noncomputable def JL : Cfg := ⟨Try.prog, lookG [(32, .val yesD), (24, .obj newL), (25, .obj scaC), (27, .obj entC), (29, .obj leaC), (26, .obj ripL), (31, .obj allL), (40, .obj rdyL), (30, .obj cntL), (28, .obj craC)], [39], 0⟩
theorem JL_ok : JL.Ok := Cfg.ok ⟨told_ok, newL_ok, scaC_ok, entC_ok, leaC_ok, ripL_ok, allL_ok, rdyL_ok, cntL_ok, craC_ok, trivial⟩ ⟨⟨by kernel_rfl, by kernel_rfl⟩, trivial⟩
end Go.Proofs.Ytfnadebkobfemaa.Lif
