/- Layer 15: delays with lists of their own. -/
import Derived.Test.Ytmijloophkkanaa15P
import Derived.Test.YtmijloophkkanaaEngK
namespace Go.Proofs.Ytmijloophkkanaa.Del
open Go.Eng Go.RowKit
set_option linter.unusedVariables false
set_option linter.unusedSimpArgs false
noncomputable def newA : Eng.Obj := fun args h => (newD args h).bind (adoptH 16 2 99 [.int .i64, .int .i64] h)
theorem newA_ok : ObjOk Try.prog 45 newA := newD_ok.adopt 16 2 99 [.int .i64, .int .i64]
noncomputable def D8 : Cfg := ⟨Try.prog, lookG [(49, .val yesD), (45, .obj newA), (46, .obj putS), (47, .obj mostS), (48, .obj spanD)], [], 0⟩
theorem D8_ok : D8.Ok := Cfg.ok ⟨told_ok, newA_ok, putS_ok, mostS_ok, spanD_ok, trivial⟩ trivial
end Go.Proofs.Ytmijloophkkanaa.Del
