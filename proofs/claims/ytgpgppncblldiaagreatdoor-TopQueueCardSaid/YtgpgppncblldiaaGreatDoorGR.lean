import Derived.Test.YtgpgppncblldiaaGreatDoorGQ
set_option linter.unusedVariables false
set_option linter.unusedSimpArgs false
noncomputable section
namespace Go.Proofs.YtgpgppncblldiaaGreatDoor.Dec
open Go.Eng Go.RowKit Mil Rin
end Go.Proofs.YtgpgppncblldiaaGreatDoor.Dec
end
