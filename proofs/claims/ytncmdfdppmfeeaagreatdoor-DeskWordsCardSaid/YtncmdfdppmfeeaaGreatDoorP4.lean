import Derived.Test.YtncmdfdppmfeeaaGreatDoorHS
namespace Go.Proofs.YtncmdfdppmfeeaaGreatDoor.Dsk
open Go.Eng Go.RowKit Go.Proofs.YtncmdfdppmfeeaaGreatDoor.Txt
set_option linter.unusedVariables false
set_option linter.unusedSimpArgs false
set_option maxRecDepth 100000
theorem Xu:dO UF Vi YH:=(by kernel_rfl:(lI [.s (.str ⟨⟨UF⟩⟩),.s (.str ⟨⟨Vi⟩⟩)]).eval=some (.s (.str ⟨⟨YH⟩⟩)))
theorem XU:dO Ve UZ XV:=(by kernel_rfl:(lI [.s (.str ⟨⟨Ve⟩⟩),.s (.str ⟨⟨UZ⟩⟩)]).eval=some (.s (.str ⟨⟨XV⟩⟩)))
theorem V3:dO UW U0 XZ:=(by kernel_rfl:(lI [.s (.str ⟨⟨UW⟩⟩),.s (.str ⟨⟨U0⟩⟩)]).eval=some (.s (.str ⟨⟨XZ⟩⟩)))
end Go.Proofs.YtncmdfdppmfeeaaGreatDoor.Dsk
