import Derived.Test.YtncmdfdppmfeeaaGreatDoorHS
namespace Go.Proofs.YtncmdfdppmfeeaaGreatDoor.Dsk
open Go.Eng Go.RowKit Go.Proofs.YtncmdfdppmfeeaaGreatDoor.Txt
set_option linter.unusedVariables false
set_option linter.unusedSimpArgs false
set_option maxRecDepth 100000
theorem Xg:dU [] (fK [116,105,99,107]) cg:=(by kernel_rfl:(lG [.s (.str ⟨⟨[]⟩⟩),.s (.str ⟨⟨fK [116,105,99,107]⟩⟩)]).eval=some (.s (.str ⟨⟨cg⟩⟩)))
theorem ZB:dU [] (fK [116,105,99,107,32,120]) cg:=(by kernel_rfl:(lG [.s (.str ⟨⟨[]⟩⟩),.s (.str ⟨⟨fK [116,105,99,107,32,120]⟩⟩)]).eval=some (.s (.str ⟨⟨cg⟩⟩)))
theorem XQ:dU [] (fK [116,105,99,107,32,49,50,51,52,53]) cg:=(by kernel_rfl:(lG [.s (.str ⟨⟨[]⟩⟩),.s (.str ⟨⟨fK [116,105,99,107,32,49,50,51,52,53]⟩⟩)]).eval=some (.s (.str ⟨⟨cg⟩⟩)))
theorem YZ:dU [] (fK [116,105,99,107,32,49,32,50]) cg:=(by kernel_rfl:(lG [.s (.str ⟨⟨[]⟩⟩),.s (.str ⟨⟨fK [116,105,99,107,32,49,32,50]⟩⟩)]).eval=some (.s (.str ⟨⟨cg⟩⟩)))
theorem W6:dU [] (fK [97,114,114,105,118,101]) cg:=(by kernel_rfl:(lG [.s (.str ⟨⟨[]⟩⟩),.s (.str ⟨⟨fK [97,114,114,105,118,101]⟩⟩)]).eval=some (.s (.str ⟨⟨cg⟩⟩)))
theorem Za:dU [] (fK [102,105,110,105,115,104,32,45,49]) cg:=(by kernel_rfl:(lG [.s (.str ⟨⟨[]⟩⟩),.s (.str ⟨⟨fK [102,105,110,105,115,104,32,45,49]⟩⟩)]).eval=some (.s (.str ⟨⟨cg⟩⟩)))
end Go.Proofs.YtncmdfdppmfeeaaGreatDoor.Dsk
