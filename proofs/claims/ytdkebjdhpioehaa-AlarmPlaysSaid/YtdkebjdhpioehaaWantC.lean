/- Layer 12: what is told of a few; the contracts that its laws lean on. -/
import Derived.Test.YtdkebjdhpioehaaWantS
namespace Go.Proofs.Ytdkebjdhpioehaa.Conf
open Go.Eng Go.RowKit Mil
set_option linter.unusedVariables false
set_option linter.unusedSimpArgs false
/-- nothing asked, true answered -/
def yesS : Eng.Spec
  | [] => .ret .tt
  | _ => .fail
theorem SpecOk.yes {P : Program} {n : Nat} {sp : Eng.Spec} (h : SpecOk P n sp) (he : (sp []).eval = some (.s (.bool true)) ∨ (sp []).eval = some .tt) : SpecOk P n yesS := by
  refine h.of_den fun args v hfl h => ?_
  clear hfl
  unfold yesS at h
  split at h
  · obtain rfl := Option.some.inj h
    rcases he with e | e
    · exact ⟨_, e, ⟨rfl, rfl⟩, rfl⟩
    · exact ⟨_, e, ⟨rfl, rfl⟩, rfl⟩
  · cases h
theorem grd {x g : Bool} (h : g = true) : (bif (x && true) then g else true) = true := by rw [h]; cases x && true <;> rfl
noncomputable def WT : Cfg := ⟨Try.prog, lookG [(24, ofS), (26, overS), (30, dfltS)], [], 0⟩
theorem WT_ok : WT.Ok := Cfg.ok ⟨of_ok, over_ok, refdflt_ok, trivial⟩ trivial
theorem told12_ok : SpecOk Try.prog 23 yesS :=
  SpecOk.yes (execS_plain WT_ok mixed Try.func23 (by kernel_rfl) (by kernel_rfl)) (.inl (by kernel_rfl))
noncomputable def WL : Cfg := ⟨Try.prog, lookG [(23, yesS), (24, ofS), (26, overS), (25, ofS), (27, overS), (28, mayS), (29, perS), (30, dfltS)], [], 0⟩
theorem WL_ok : WL.Ok := Cfg.ok ⟨told12_ok, of_ok, over_ok, refof_ok, refover_ok, refmay_ok, refper_ok, refdflt_ok, trivial⟩ trivial
end Go.Proofs.Ytdkebjdhpioehaa.Conf
