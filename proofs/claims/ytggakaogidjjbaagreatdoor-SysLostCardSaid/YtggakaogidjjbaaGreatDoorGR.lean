import Derived.Test.YtggakaogidjjbaaGreatDoorGQ
namespace Go.Proofs.YtggakaogidjjbaaGreatDoor.Dec
open Go.Eng Go.RowKit Mil Rin
set_option linter.unusedVariables false
set_option linter.unusedSimpArgs false
end Go.Proofs.YtggakaogidjjbaaGreatDoor.Dec
