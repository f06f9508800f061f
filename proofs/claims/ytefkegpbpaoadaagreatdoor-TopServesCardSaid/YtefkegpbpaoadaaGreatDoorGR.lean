import Derived.Test.YtefkegpbpaoadaaGreatDoorGQ
set_option linter.unusedVariables false
set_option linter.unusedSimpArgs false
noncomputable section
namespace Go.Proofs.YtefkegpbpaoadaaGreatDoor.Dec
open Go.Eng Go.RowKit Mil Rin
end Go.Proofs.YtefkegpbpaoadaaGreatDoor.Dec
end
