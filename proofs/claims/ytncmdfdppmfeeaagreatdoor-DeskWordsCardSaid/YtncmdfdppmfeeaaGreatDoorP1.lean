import Derived.Test.YtncmdfdppmfeeaaGreatDoorHS
namespace Go.Proofs.YtncmdfdppmfeeaaGreatDoor.Dsk
open Go.Eng Go.RowKit Go.Proofs.YtncmdfdppmfeeaaGreatDoor.Txt
set_option linter.unusedVariables false
set_option linter.unusedSimpArgs false
set_option maxRecDepth 100000
theorem Wn:dO [] (fH [116,105,99,107]) cg:=(by kernel_rfl:(lI [.s (.str ⟨⟨[]⟩⟩),.s (.str ⟨⟨fH [116,105,99,107]⟩⟩)]).eval=some (.s (.str ⟨⟨cg⟩⟩)))
theorem Ye:dO [] (fH [116,105,99,107,32,120]) cg:=(by kernel_rfl:(lI [.s (.str ⟨⟨[]⟩⟩),.s (.str ⟨⟨fH [116,105,99,107,32,120]⟩⟩)]).eval=some (.s (.str ⟨⟨cg⟩⟩)))
theorem Xd:dO [] (fH [116,105,99,107,32,49,50,51,52,53]) cg:=(by kernel_rfl:(lI [.s (.str ⟨⟨[]⟩⟩),.s (.str ⟨⟨fH [116,105,99,107,32,49,50,51,52,53]⟩⟩)]).eval=some (.s (.str ⟨⟨cg⟩⟩)))
theorem Wl:dO [] (fH [116,105,99,107,32,49,32,50]) cg:=(by kernel_rfl:(lI [.s (.str ⟨⟨[]⟩⟩),.s (.str ⟨⟨fH [116,105,99,107,32,49,32,50]⟩⟩)]).eval=some (.s (.str ⟨⟨cg⟩⟩)))
theorem We:dO [] (fH [97,114,114,105,118,101]) cg:=(by kernel_rfl:(lI [.s (.str ⟨⟨[]⟩⟩),.s (.str ⟨⟨fH [97,114,114,105,118,101]⟩⟩)]).eval=some (.s (.str ⟨⟨cg⟩⟩)))
theorem WN:dO [] (fH [102,105,110,105,115,104,32,45,49]) cg:=(by kernel_rfl:(lI [.s (.str ⟨⟨[]⟩⟩),.s (.str ⟨⟨fH [102,105,110,105,115,104,32,45,49]⟩⟩)]).eval=some (.s (.str ⟨⟨cg⟩⟩)))
end Go.Proofs.YtncmdfdppmfeeaaGreatDoor.Dsk
