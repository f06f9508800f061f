import Derived.Test.YtncmdfdppmfeeaaGreatDoorHS
namespace Go.Proofs.YtncmdfdppmfeeaaGreatDoor.Dsk
open Go.Eng Go.RowKit Go.Proofs.YtncmdfdppmfeeaaGreatDoor.Txt
set_option linter.unusedVariables false
set_option linter.unusedSimpArgs false
set_option maxRecDepth 100000
theorem ZG:dU Vs Wm Xw:=(by kernel_rfl:(lG [.s (.str ⟨⟨Vs⟩⟩),.s (.str ⟨⟨Wm⟩⟩)]).eval=some (.s (.str ⟨⟨Xw⟩⟩)))
theorem Zl:dU Wv VK XM:=(by kernel_rfl:(lG [.s (.str ⟨⟨Wv⟩⟩),.s (.str ⟨⟨VK⟩⟩)]).eval=some (.s (.str ⟨⟨XM⟩⟩)))
theorem XE:dU V9 V7 Xy:=(by kernel_rfl:(lG [.s (.str ⟨⟨V9⟩⟩),.s (.str ⟨⟨V7⟩⟩)]).eval=some (.s (.str ⟨⟨Xy⟩⟩)))
end Go.Proofs.YtncmdfdppmfeeaaGreatDoor.Dsk
