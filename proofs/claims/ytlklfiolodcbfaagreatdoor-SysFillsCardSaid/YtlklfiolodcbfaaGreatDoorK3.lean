import Derived.Test.YtlklfiolodcbfaaGreatDoorHK
/- Layer 4: told texts of two lines (3). -/
namespace Go.Proofs.YtlklfiolodcbfaaGreatDoor.Txt
open Go.Eng Go.RowKit
set_option linter.unusedVariables false
set_option linter.unusedSimpArgs false
set_option maxRecDepth 100000
theorem tx3_0:(parY [Conf.confV Conf.dflt,.s (.str ⟨⟨limB 3++([10]++queB 0)⟩⟩)]).eval=some (.tup [Conf.confV { Conf.dflt with limit:=3,queue:=0 },Eng.iv 0,Eng.iv 0]):=by kernel_rfl
theorem tx3_1:(parY [Conf.confV Conf.dflt,.s (.str ⟨⟨limB 3++([10]++queB 1)⟩⟩)]).eval=some (.tup [Conf.confV { Conf.dflt with limit:=3,queue:=1 },Eng.iv 0,Eng.iv 0]):=by kernel_rfl
theorem tx3_2:(parY [Conf.confV Conf.dflt,.s (.str ⟨⟨limB 3++([10]++queB 2)⟩⟩)]).eval=some (.tup [Conf.confV { Conf.dflt with limit:=3,queue:=2 },Eng.iv 0,Eng.iv 0]):=by kernel_rfl
theorem tx3_3:(parY [Conf.confV Conf.dflt,.s (.str ⟨⟨limB 3++([10]++queB 3)⟩⟩)]).eval=some (.tup [Conf.confV { Conf.dflt with limit:=3,queue:=3 },Eng.iv 0,Eng.iv 0]):=by kernel_rfl
theorem tx3_4:(parY [Conf.confV Conf.dflt,.s (.str ⟨⟨limB 3++([10]++queB 4)⟩⟩)]).eval=some (.tup [Conf.confV { Conf.dflt with limit:=3,queue:=4 },Eng.iv 0,Eng.iv 0]):=by kernel_rfl
theorem tx3_5:(parY [Conf.confV Conf.dflt,.s (.str ⟨⟨limB 3++([10]++queB 5)⟩⟩)]).eval=some (.tup [Conf.confV { Conf.dflt with limit:=3,queue:=5 },Eng.iv 0,Eng.iv 0]):=by kernel_rfl
theorem tx3_6:(parY [Conf.confV Conf.dflt,.s (.str ⟨⟨limB 3++([10]++queB 6)⟩⟩)]).eval=some (.tup [Conf.confV { Conf.dflt with limit:=3,queue:=6 },Eng.iv 0,Eng.iv 0]):=by kernel_rfl
theorem tx3_7:(parY [Conf.confV Conf.dflt,.s (.str ⟨⟨limB 3++([10]++queB 7)⟩⟩)]).eval=some (.tup [Conf.confV { Conf.dflt with limit:=3,queue:=7 },Eng.iv 0,Eng.iv 0]):=by kernel_rfl
theorem tx3_8:(parY [Conf.confV Conf.dflt,.s (.str ⟨⟨limB 3++([10]++queB 8)⟩⟩)]).eval=some (.tup [Conf.confV { Conf.dflt with limit:=3,queue:=8 },Eng.iv 0,Eng.iv 0]):=by kernel_rfl
theorem tx3_9:(parY [Conf.confV Conf.dflt,.s (.str ⟨⟨limB 3++([10]++queB 9)⟩⟩)]).eval=some (.tup [Conf.confV { Conf.dflt with limit:=3,queue:=9 },Eng.iv 0,Eng.iv 0]):=by kernel_rfl
theorem tx3_10:(parY [Conf.confV Conf.dflt,.s (.str ⟨⟨limB 3++([10]++queB 10)⟩⟩)]).eval=some (.tup [Conf.confV { Conf.dflt with limit:=3,queue:=10 },Eng.iv 0,Eng.iv 0]):=by kernel_rfl
theorem tx3_11:(parY [Conf.confV Conf.dflt,.s (.str ⟨⟨limB 3++([10]++queB 11)⟩⟩)]).eval=some (.tup [Conf.confV { Conf.dflt with limit:=3,queue:=11 },Eng.iv 0,Eng.iv 0]):=by kernel_rfl
theorem tx3_12:(parY [Conf.confV Conf.dflt,.s (.str ⟨⟨limB 3++([10]++queB 12)⟩⟩)]).eval=some (.tup [Conf.confV { Conf.dflt with limit:=3,queue:=12 },Eng.iv 0,Eng.iv 0]):=by kernel_rfl
theorem tx3_13:(parY [Conf.confV Conf.dflt,.s (.str ⟨⟨limB 3++([10]++queB 13)⟩⟩)]).eval=some (.tup [Conf.confV { Conf.dflt with limit:=3,queue:=13 },Eng.iv 0,Eng.iv 0]):=by kernel_rfl
theorem tx3_14:(parY [Conf.confV Conf.dflt,.s (.str ⟨⟨limB 3++([10]++queB 14)⟩⟩)]).eval=some (.tup [Conf.confV { Conf.dflt with limit:=3,queue:=14 },Eng.iv 0,Eng.iv 0]):=by kernel_rfl
theorem tx3_15:(parY [Conf.confV Conf.dflt,.s (.str ⟨⟨limB 3++([10]++queB 15)⟩⟩)]).eval=some (.tup [Conf.confV { Conf.dflt with limit:=3,queue:=15 },Eng.iv 0,Eng.iv 0]):=by kernel_rfl
theorem tx3_16:(parY [Conf.confV Conf.dflt,.s (.str ⟨⟨limB 3++([10]++queB 16)⟩⟩)]).eval=some (.tup [Conf.confV { Conf.dflt with limit:=3,queue:=16 },Eng.iv 0,Eng.iv 0]):=by kernel_rfl
theorem tx3_17:(parY [Conf.confV Conf.dflt,.s (.str ⟨⟨limB 3++([10]++queB 17)⟩⟩)]).eval=some (.tup [Conf.confV { Conf.dflt with limit:=3,queue:=17 },Eng.iv 0,Eng.iv 0]):=by kernel_rfl
theorem tx3_18:(parY [Conf.confV Conf.dflt,.s (.str ⟨⟨limB 3++([10]++queB 18)⟩⟩)]).eval=some (.tup [Conf.confV { Conf.dflt with limit:=3,queue:=18 },Eng.iv 0,Eng.iv 0]):=by kernel_rfl
theorem tx3_19:(parY [Conf.confV Conf.dflt,.s (.str ⟨⟨limB 3++([10]++queB 19)⟩⟩)]).eval=some (.tup [Conf.confV { Conf.dflt with limit:=3,queue:=19 },Eng.iv 0,Eng.iv 0]):=by kernel_rfl
theorem tx3_20:(parY [Conf.confV Conf.dflt,.s (.str ⟨⟨limB 3++([10]++queB 20)⟩⟩)]).eval=some (.tup [Conf.confV { Conf.dflt with limit:=3,queue:=20 },Eng.iv 0,Eng.iv 0]):=by kernel_rfl
end Go.Proofs.YtlklfiolodcbfaaGreatDoor.Txt
