import Derived.Test.YtcbgmdpkhfahmaaGreatDoorGQ
set_option linter.unusedVariables false
set_option linter.unusedSimpArgs false
noncomputable section
namespace Go.Proofs.YtcbgmdpkhfahmaaGreatDoor.Dec
open Go.Eng Go.RowKit Mil Rin
end Go.Proofs.YtcbgmdpkhfahmaaGreatDoor.Dec
end
