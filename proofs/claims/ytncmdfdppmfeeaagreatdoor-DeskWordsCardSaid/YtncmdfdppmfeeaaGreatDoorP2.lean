import Derived.Test.YtncmdfdppmfeeaaGreatDoorHS
namespace Go.Proofs.YtncmdfdppmfeeaaGreatDoor.Dsk
open Go.Eng Go.RowKit Go.Proofs.YtncmdfdppmfeeaaGreatDoor.Txt
set_option linter.unusedVariables false
set_option linter.unusedSimpArgs false
set_option maxRecDepth 100000
theorem Wj:dO [] (fH [99,114,97,115,104]) cg:=(by kernel_rfl:(lI [.s (.str ⟨⟨[]⟩⟩),.s (.str ⟨⟨fH [99,114,97,115,104]⟩⟩)]).eval=some (.s (.str ⟨⟨cg⟩⟩)))
theorem YW:dO [] (fH [108,111,115,101,32,120]) cg:=(by kernel_rfl:(lI [.s (.str ⟨⟨[]⟩⟩),.s (.str ⟨⟨fH [108,111,115,101,32,120]⟩⟩)]).eval=some (.s (.str ⟨⟨cg⟩⟩)))
theorem Xb:dO [] (fH [115,101,116]) cg:=(by kernel_rfl:(lI [.s (.str ⟨⟨[]⟩⟩),.s (.str ⟨⟨fH [115,101,116]⟩⟩)]).eval=some (.s (.str ⟨⟨cg⟩⟩)))
theorem Xx:dO [] (fH [115,101,116,32,109,105,110]) cg:=(by kernel_rfl:(lI [.s (.str ⟨⟨[]⟩⟩),.s (.str ⟨⟨fH [115,101,116,32,109,105,110]⟩⟩)]).eval=some (.s (.str ⟨⟨cg⟩⟩)))
theorem O7:dO [] (fH [115,101,116,32,109,105,110,32,49,32,50]) cg:=(by kernel_rfl:(lI [.s (.str ⟨⟨[]⟩⟩),.s (.str ⟨⟨fH [115,101,116,32,109,105,110,32,49,32,50]⟩⟩)]).eval=some (.s (.str ⟨⟨cg⟩⟩)))
theorem Pg:dO [] (fH [115,101,101,32,49]) cg:=(by kernel_rfl:(lI [.s (.str ⟨⟨[]⟩⟩),.s (.str ⟨⟨fH [115,101,101,32,49]⟩⟩)]).eval=some (.s (.str ⟨⟨cg⟩⟩)))
end Go.Proofs.YtncmdfdppmfeeaaGreatDoor.Dsk
