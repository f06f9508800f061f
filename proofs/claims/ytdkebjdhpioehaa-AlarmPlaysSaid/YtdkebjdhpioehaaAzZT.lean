/- Trees as the machine prints them. -/
import Derived.Test.YtdkebjdhpioehaaAzZ
import Derived.Test.YtdkebjdhpioehaaYes
namespace Go.Proofs.Ytdkebjdhpioehaa.Conf
open Go.Eng Go.RowKit Mil
set_option linter.unusedVariables false
set_option maxRecDepth 100000
noncomputable def lawZ (l : List Bool) (a b c : Int) : T V := T.ite none (invZ { l := l, k := List.length l, a := a, b := b, c := c } { s := -1, ru := 0, i := 0 }) (T.ret V.tt)
  T.fail
end Go.Proofs.Ytdkebjdhpioehaa.Conf
