/- Layer 20: QueueFirst: what it calls. -/
import Derived.Test.YtfnadebkobfemaaQueAc
import Derived.Test.YtfnadebkobfemaaEngO
namespace Go.Proofs.Ytfnadebkobfemaa.Que
open Go.Eng Go.RowKit
set_option linter.unusedVariables false
set_option linter.unusedSimpArgs false
noncomputable def J7 : Cfg := ⟨Try.prog, lookG [(22, .val yesD), (18, .obj newQ), (19, .obj putQ), (20, .obj takeQ), (23, .obj allQ), (21, .obj lateQ)], [], 0⟩
theorem J7_ok : J7.Ok := Cfg.ok ⟨told_ok, newQ_ok, putQ_ok, takeQ_ok, allQ_ok, lateQ_ok, trivial⟩ trivial
end Go.Proofs.Ytfnadebkobfemaa.Que
