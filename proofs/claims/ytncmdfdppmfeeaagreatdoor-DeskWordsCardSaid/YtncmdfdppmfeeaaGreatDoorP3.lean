import Derived.Test.YtncmdfdppmfeeaaGreatDoorHS
namespace Go.Proofs.YtncmdfdppmfeeaaGreatDoor.Dsk
open Go.Eng Go.RowKit Go.Proofs.YtncmdfdppmfeeaaGreatDoor.Txt
set_option linter.unusedVariables false
set_option linter.unusedSimpArgs false
set_option maxRecDepth 100000
theorem SF:dO [] (fH [112,111,100,115,32,120]) cg:=(by kernel_rfl:(lI [.s (.str ⟨⟨[]⟩⟩),.s (.str ⟨⟨fH [112,111,100,115,32,120]⟩⟩)]).eval=some (.s (.str ⟨⟨cg⟩⟩)))
theorem Rs:dO [] (fH [101,110,100,115,32,48]) cg:=(by kernel_rfl:(lI [.s (.str ⟨⟨[]⟩⟩),.s (.str ⟨⟨fH [101,110,100,115,32,48]⟩⟩)]).eval=some (.s (.str ⟨⟨cg⟩⟩)))
theorem OI:dO [] (fH [108,97,115,116,32,49]) cg:=(by kernel_rfl:(lI [.s (.str ⟨⟨[]⟩⟩),.s (.str ⟨⟨fH [108,97,115,116,32,49]⟩⟩)]).eval=some (.s (.str ⟨⟨cg⟩⟩)))
theorem OX:dO [] (fH [32,115,101,101]) cg:=(by kernel_rfl:(lI [.s (.str ⟨⟨[]⟩⟩),.s (.str ⟨⟨fH [32,115,101,101]⟩⟩)]).eval=some (.s (.str ⟨⟨cg⟩⟩)))
theorem QC:dO [] (fH [84,105,99,107,32,49]) cg:=(by kernel_rfl:(lI [.s (.str ⟨⟨[]⟩⟩),.s (.str ⟨⟨fH [84,105,99,107,32,49]⟩⟩)]).eval=some (.s (.str ⟨⟨cg⟩⟩)))
theorem Qk:dO [] (fH [116,105,99,107,32,32,49]) cg:=(by kernel_rfl:(lI [.s (.str ⟨⟨[]⟩⟩),.s (.str ⟨⟨fH [116,105,99,107,32,32,49]⟩⟩)]).eval=some (.s (.str ⟨⟨cg⟩⟩)))
end Go.Proofs.YtncmdfdppmfeeaaGreatDoor.Dsk
