import Derived.Test.YtncmdfdppmfeeaaGreatDoorHS
namespace Go.Proofs.YtncmdfdppmfeeaaGreatDoor.Dsk
open Go.Eng Go.RowKit Go.Proofs.YtncmdfdppmfeeaaGreatDoor.Txt
set_option linter.unusedVariables false
set_option linter.unusedSimpArgs false
set_option maxRecDepth 100000
theorem Yk:dU [] (fK [99,114,97,115,104]) cg:=(by kernel_rfl:(lG [.s (.str ⟨⟨[]⟩⟩),.s (.str ⟨⟨fK [99,114,97,115,104]⟩⟩)]).eval=some (.s (.str ⟨⟨cg⟩⟩)))
theorem Yv:dU [] (fK [108,111,115,101,32,120]) cg:=(by kernel_rfl:(lG [.s (.str ⟨⟨[]⟩⟩),.s (.str ⟨⟨fK [108,111,115,101,32,120]⟩⟩)]).eval=some (.s (.str ⟨⟨cg⟩⟩)))
theorem X6:dU [] (fK [115,101,116]) cg:=(by kernel_rfl:(lG [.s (.str ⟨⟨[]⟩⟩),.s (.str ⟨⟨fK [115,101,116]⟩⟩)]).eval=some (.s (.str ⟨⟨cg⟩⟩)))
theorem Yz:dU [] (fK [115,101,116,32,109,105,110]) cg:=(by kernel_rfl:(lG [.s (.str ⟨⟨[]⟩⟩),.s (.str ⟨⟨fK [115,101,116,32,109,105,110]⟩⟩)]).eval=some (.s (.str ⟨⟨cg⟩⟩)))
theorem Ro:dU [] (fK [115,101,116,32,109,105,110,32,49,32,50]) cg:=(by kernel_rfl:(lG [.s (.str ⟨⟨[]⟩⟩),.s (.str ⟨⟨fK [115,101,116,32,109,105,110,32,49,32,50]⟩⟩)]).eval=some (.s (.str ⟨⟨cg⟩⟩)))
theorem Uv:dU [] (fK [115,101,101,32,49]) cg:=(by kernel_rfl:(lG [.s (.str ⟨⟨[]⟩⟩),.s (.str ⟨⟨fK [115,101,101,32,49]⟩⟩)]).eval=some (.s (.str ⟨⟨cg⟩⟩)))
end Go.Proofs.YtncmdfdppmfeeaaGreatDoor.Dsk
