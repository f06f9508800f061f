/- Layer 5: what the laws call. -/
import Derived.Test.YtheknddbbgjpkaaRinT
namespace Go.Proofs.Ytheknddbbgjpkaa.Rin
open Go.Eng Go.RowKit Mil
set_option linter.unusedVariables false
set_option linter.unusedSimpArgs false
noncomputable def RL : Cfg := ⟨Try.prog, lookG [(46, .val yesR), (43, .obj newS), (44, .obj putS), (45, .obj sumS), (50, .obj meanS), (54, .obj siS), (52, .obj resS), (56, .see ovS)], [], 0⟩
theorem RL_ok : RL.Ok := Cfg.ok ⟨told_ok, newS_ok, putS_ok, sumS_ok, meanS_ok, siS_ok, resS_ok, ovS_ok, trivial⟩ trivial
noncomputable def lateR (a b v : Int) : T V := execS RL noLoops 9 [iv a, iv b, iv v]
noncomputable def forgR (a v b : Int) : T V := execS RL noLoops 14 [iv a, iv v, iv b]
noncomputable def grainR (a b c : Int) : T V := execS RL noLoops 15 [iv a, iv b, iv c]
end Go.Proofs.Ytheknddbbgjpkaa.Rin
