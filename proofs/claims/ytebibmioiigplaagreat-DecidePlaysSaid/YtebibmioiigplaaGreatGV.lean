import Derived.Test.YtebibmioiigplaaGreatGU
/- Layer 17: DecidePlays: a load. -/
namespace Go.Proofs.YtebibmioiigplaaGreat.Dec
open Go.Eng Go.RowKit Mil Rin
set_option linter.unusedVariables false
set_option linter.unusedSimpArgs false
set_option maxRecDepth 100000
theorem wayP (b c1 c2 : Bool) (p : PDp) (d : DcS) (dd : DdS) (now i : Int) (x : O17) (hx : xO17 p.o i = x) (t r v : Int) (ht : nwD now x = t) (hr : rD17 x = r) (hv : vD17 x = v) : T.path ([true, true, true, false, false] ++ ([true, false, true] ++ ([false, true, c1] ++ ([false, true, c2] ++ ([false] ++ chP b))))) (rdDp p (stDp d dd now i)) =
    some (hdD p i ++ ([(decide (kD x < 6), true), ((2000000 : Int) == 0, false), (Dly.pB (okP17 d t v), true)] ++ (putDC dd.d t v c1 ++ (putDC dd.e t v c2 ++ ([((0 : Int) != 0, false)] ++ tlP b (d.put t v) (dd.put c1 c2 t v) t r)))), (.normal, FDp p (stDp (nxD b (d.put t v) t r) (rxD b (dd.put c1 c2 t v) t r) t (wI (i + 1))))) := by subst hv; subst hr; subst ht; subst hx; cases b <;> cases c1 <;> cases c2 <;> kernel_rfl
end Go.Proofs.YtebibmioiigplaaGreat.Dec

