import Derived.Test.YtncmdfdppmfeeaaGreatDoorHS
namespace Go.Proofs.YtncmdfdppmfeeaaGreatDoor.Dsk
open Go.Eng Go.RowKit Go.Proofs.YtncmdfdppmfeeaaGreatDoor.Txt
set_option linter.unusedVariables false
set_option linter.unusedSimpArgs false
set_option maxRecDepth 100000
theorem Qc:dU [] (fK [112,111,100,115,32,120]) cg:=(by kernel_rfl:(lG [.s (.str ⟨⟨[]⟩⟩),.s (.str ⟨⟨fK [112,111,100,115,32,120]⟩⟩)]).eval=some (.s (.str ⟨⟨cg⟩⟩)))
theorem UY:dU [] (fK [101,110,100,115,32,48]) cg:=(by kernel_rfl:(lG [.s (.str ⟨⟨[]⟩⟩),.s (.str ⟨⟨fK [101,110,100,115,32,48]⟩⟩)]).eval=some (.s (.str ⟨⟨cg⟩⟩)))
theorem Ub:dU [] (fK [108,97,115,116,32,49]) cg:=(by kernel_rfl:(lG [.s (.str ⟨⟨[]⟩⟩),.s (.str ⟨⟨fK [108,97,115,116,32,49]⟩⟩)]).eval=some (.s (.str ⟨⟨cg⟩⟩)))
theorem Qg:dU [] (fK [32,115,101,101]) cg:=(by kernel_rfl:(lG [.s (.str ⟨⟨[]⟩⟩),.s (.str ⟨⟨fK [32,115,101,101]⟩⟩)]).eval=some (.s (.str ⟨⟨cg⟩⟩)))
theorem Sw:dU [] (fK [84,105,99,107,32,49]) cg:=(by kernel_rfl:(lG [.s (.str ⟨⟨[]⟩⟩),.s (.str ⟨⟨fK [84,105,99,107,32,49]⟩⟩)]).eval=some (.s (.str ⟨⟨cg⟩⟩)))
theorem RW:dU [] (fK [116,105,99,107,32,32,49]) cg:=(by kernel_rfl:(lG [.s (.str ⟨⟨[]⟩⟩),.s (.str ⟨⟨fK [116,105,99,107,32,32,49]⟩⟩)]).eval=some (.s (.str ⟨⟨cg⟩⟩)))
end Go.Proofs.YtncmdfdppmfeeaaGreatDoor.Dsk
