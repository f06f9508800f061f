/- Layer 8: the round of PodPlays, as the machine has it. -/
import Derived.Test.YtacdadifjgppbaaPodRa
import Derived.Test.YtacdadifjgppbaaEngM
namespace Go.Proofs.Ytacdadifjgppbaa.Pod
open Go.Eng Go.RowKit Go.Flt Lod Brk
set_option linter.unusedVariables false
set_option linter.unusedSimpArgs false
noncomputable def rdW (p : PW) (a : AW) : T (Ex × St) := T.anon (roundN D6 noLoops pl1 [4,11,12,13] SW 1000 1000 (mkSt [4,11,12,13] (keysR SW) 1000 156 (vsW p a) (bsW p a)))
end Go.Proofs.Ytacdadifjgppbaa.Pod
