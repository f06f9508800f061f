import Derived.Test.YtlklfiolodcbfaaGreatDoorHK
/- Layer 4: told texts of two lines (8). -/
namespace Go.Proofs.YtlklfiolodcbfaaGreatDoor.Txt
open Go.Eng Go.RowKit
set_option linter.unusedVariables false
set_option linter.unusedSimpArgs false
set_option maxRecDepth 100000
theorem tx8_0:(parY [Conf.confV Conf.dflt,.s (.str ⟨⟨limB 8++([10]++queB 0)⟩⟩)]).eval=some (.tup [Conf.confV { Conf.dflt with limit:=8,queue:=0 },Eng.iv 0,Eng.iv 0]):=by kernel_rfl
theorem tx8_1:(parY [Conf.confV Conf.dflt,.s (.str ⟨⟨limB 8++([10]++queB 1)⟩⟩)]).eval=some (.tup [Conf.confV { Conf.dflt with limit:=8,queue:=1 },Eng.iv 0,Eng.iv 0]):=by kernel_rfl
theorem tx8_2:(parY [Conf.confV Conf.dflt,.s (.str ⟨⟨limB 8++([10]++queB 2)⟩⟩)]).eval=some (.tup [Conf.confV { Conf.dflt with limit:=8,queue:=2 },Eng.iv 0,Eng.iv 0]):=by kernel_rfl
theorem tx8_3:(parY [Conf.confV Conf.dflt,.s (.str ⟨⟨limB 8++([10]++queB 3)⟩⟩)]).eval=some (.tup [Conf.confV { Conf.dflt with limit:=8,queue:=3 },Eng.iv 0,Eng.iv 0]):=by kernel_rfl
theorem tx8_4:(parY [Conf.confV Conf.dflt,.s (.str ⟨⟨limB 8++([10]++queB 4)⟩⟩)]).eval=some (.tup [Conf.confV { Conf.dflt with limit:=8,queue:=4 },Eng.iv 0,Eng.iv 0]):=by kernel_rfl
theorem tx8_5:(parY [Conf.confV Conf.dflt,.s (.str ⟨⟨limB 8++([10]++queB 5)⟩⟩)]).eval=some (.tup [Conf.confV { Conf.dflt with limit:=8,queue:=5 },Eng.iv 0,Eng.iv 0]):=by kernel_rfl
theorem tx8_6:(parY [Conf.confV Conf.dflt,.s (.str ⟨⟨limB 8++([10]++queB 6)⟩⟩)]).eval=some (.tup [Conf.confV { Conf.dflt with limit:=8,queue:=6 },Eng.iv 0,Eng.iv 0]):=by kernel_rfl
theorem tx8_7:(parY [Conf.confV Conf.dflt,.s (.str ⟨⟨limB 8++([10]++queB 7)⟩⟩)]).eval=some (.tup [Conf.confV { Conf.dflt with limit:=8,queue:=7 },Eng.iv 0,Eng.iv 0]):=by kernel_rfl
theorem tx8_8:(parY [Conf.confV Conf.dflt,.s (.str ⟨⟨limB 8++([10]++queB 8)⟩⟩)]).eval=some (.tup [Conf.confV { Conf.dflt with limit:=8,queue:=8 },Eng.iv 0,Eng.iv 0]):=by kernel_rfl
theorem tx8_9:(parY [Conf.confV Conf.dflt,.s (.str ⟨⟨limB 8++([10]++queB 9)⟩⟩)]).eval=some (.tup [Conf.confV { Conf.dflt with limit:=8,queue:=9 },Eng.iv 0,Eng.iv 0]):=by kernel_rfl
theorem tx8_10:(parY [Conf.confV Conf.dflt,.s (.str ⟨⟨limB 8++([10]++queB 10)⟩⟩)]).eval=some (.tup [Conf.confV { Conf.dflt with limit:=8,queue:=10 },Eng.iv 0,Eng.iv 0]):=by kernel_rfl
theorem tx8_11:(parY [Conf.confV Conf.dflt,.s (.str ⟨⟨limB 8++([10]++queB 11)⟩⟩)]).eval=some (.tup [Conf.confV { Conf.dflt with limit:=8,queue:=11 },Eng.iv 0,Eng.iv 0]):=by kernel_rfl
theorem tx8_12:(parY [Conf.confV Conf.dflt,.s (.str ⟨⟨limB 8++([10]++queB 12)⟩⟩)]).eval=some (.tup [Conf.confV { Conf.dflt with limit:=8,queue:=12 },Eng.iv 0,Eng.iv 0]):=by kernel_rfl
theorem tx8_13:(parY [Conf.confV Conf.dflt,.s (.str ⟨⟨limB 8++([10]++queB 13)⟩⟩)]).eval=some (.tup [Conf.confV { Conf.dflt with limit:=8,queue:=13 },Eng.iv 0,Eng.iv 0]):=by kernel_rfl
theorem tx8_14:(parY [Conf.confV Conf.dflt,.s (.str ⟨⟨limB 8++([10]++queB 14)⟩⟩)]).eval=some (.tup [Conf.confV { Conf.dflt with limit:=8,queue:=14 },Eng.iv 0,Eng.iv 0]):=by kernel_rfl
theorem tx8_15:(parY [Conf.confV Conf.dflt,.s (.str ⟨⟨limB 8++([10]++queB 15)⟩⟩)]).eval=some (.tup [Conf.confV { Conf.dflt with limit:=8,queue:=15 },Eng.iv 0,Eng.iv 0]):=by kernel_rfl
theorem tx8_16:(parY [Conf.confV Conf.dflt,.s (.str ⟨⟨limB 8++([10]++queB 16)⟩⟩)]).eval=some (.tup [Conf.confV { Conf.dflt with limit:=8,queue:=16 },Eng.iv 0,Eng.iv 0]):=by kernel_rfl
theorem tx8_17:(parY [Conf.confV Conf.dflt,.s (.str ⟨⟨limB 8++([10]++queB 17)⟩⟩)]).eval=some (.tup [Conf.confV { Conf.dflt with limit:=8,queue:=17 },Eng.iv 0,Eng.iv 0]):=by kernel_rfl
theorem tx8_18:(parY [Conf.confV Conf.dflt,.s (.str ⟨⟨limB 8++([10]++queB 18)⟩⟩)]).eval=some (.tup [Conf.confV { Conf.dflt with limit:=8,queue:=18 },Eng.iv 0,Eng.iv 0]):=by kernel_rfl
theorem tx8_19:(parY [Conf.confV Conf.dflt,.s (.str ⟨⟨limB 8++([10]++queB 19)⟩⟩)]).eval=some (.tup [Conf.confV { Conf.dflt with limit:=8,queue:=19 },Eng.iv 0,Eng.iv 0]):=by kernel_rfl
theorem tx8_20:(parY [Conf.confV Conf.dflt,.s (.str ⟨⟨limB 8++([10]++queB 20)⟩⟩)]).eval=some (.tup [Conf.confV { Conf.dflt with limit:=8,queue:=20 },Eng.iv 0,Eng.iv 0]):=by kernel_rfl
end Go.Proofs.YtlklfiolodcbfaaGreatDoor.Txt
