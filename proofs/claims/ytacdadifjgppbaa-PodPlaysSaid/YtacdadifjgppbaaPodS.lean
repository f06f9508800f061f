/- Layer 8: the pod's functions, run by the machine. -/
import Derived.Test.YtacdadifjgppbaaPodM
namespace Go.Proofs.Ytacdadifjgppbaa.Pod
open Go.Eng Go.RowKit Go.Flt Lod Brk
set_option linter.unusedVariables false
set_option linter.unusedSimpArgs false
def dnC : Eng.Spec
  | [.s (.int .i64 a), .s (.int .i64 b)] => .ite none (decide (0 ≤ a ∧ a ≤ 9223372036854775807 ∧ 0 < b)) (.ret (.tup [iv (Int.tdiv a b), iv 0])) .fail
  | _ => .fail
theorem dnC_ok : SpecOk Try.prog 66 dnC := by
  refine downS_ok.of_den fun args v hfl h => ?_
  clear hfl
  unfold dnC at h
  split at h
  · rename_i a b
    obtain ⟨hk, h⟩ := guard_eval h
    obtain rfl := Option.some.inj h
    have hk := of_decide_eq_true hk
    have e : T.anon (downS [iv a, iv b]) = T.ite none (b == 0) (.ret (.tup [iv 0, iv 3])) (T.ite none (bif a == -9223372036854775808 then b == -1 else false) (.ret (.tup [iv 9223372036854775807, iv 2])) (T.ite none (b == 0) .fail (T.ite none (b == 0) .fail
      (T.ite none (bif Int.tmod a b != 0 then !decide (a < 0) == decide (b < 0) == decide ((-1 : Int) < 0) else false) (.ret (.tup [iv (IntKind.wrap .i64 (IntKind.wrap .i64 (Int.tdiv a b) + -1)), iv 0])) (.ret (.tup [iv (IntKind.wrap .i64 (Int.tdiv a b)), iv 0])))))) := by kernel_rfl
    refine ⟨_, ?_, ⟨rfl, rfl⟩, rfl⟩
    rw [← T.eval_anon]
    refine Eq.trans (congrArg T.eval e) ?_
    have b0 : (b == 0) = false := by rw [beq_eq_false_iff_ne]; omega
    have q : IntKind.wrap .i64 (Int.tdiv a b) = Int.tdiv a b := by
      rw [Int.tdiv_eq_ediv_of_nonneg hk.1]
      exact wrap64_in (by have := Int.ediv_nonneg hk.1 (Int.le_of_lt hk.2.2); omega) (Int.le_trans (Int.ediv_le_self _ hk.1) hk.2.1)
    rw [q]
    refine tev_else b0 (tev_else ?_ (tev_else b0 (tev_else b0 (tev_else ?_ rfl))))
    · rw [show (a == -9223372036854775808) = false by rw [beq_eq_false_iff_ne]; omega]; rfl
    · rw [decide_eq_false (show ¬ a < 0 by omega), decide_eq_false (show ¬ b < 0 by omega)]
      cases (Int.tmod a b != 0) <;> rfl
  · cases h
noncomputable def D1 : Cfg := ⟨Try.prog, lookG [(28, .obj newB), (40, .get 76 loadG), (23, .val busyC), (24, .val waitC), (29, .obj enterC), (36, .obj leaveC)], [], 0⟩
theorem D1_ok : D1.Ok := Cfg.ok ⟨newB_ok, loadG_ok, busyC_ok, waitC_ok, enterC_ok, leaveC_ok, trivial⟩ trivial
noncomputable def newP : Eng.Obj := execO D1 noLoops 44
theorem newP_ok : ObjOk Try.prog 44 newP := execO_plain D1_ok mixed Try.func44 (by kernel_rfl) (by kernel_rfl)
noncomputable def runsP : Eng.Obj := execO D1 noLoops 63
theorem runsP_ok : ObjOk Try.prog 63 runsP := execO_plain D1_ok mixed Try.func63 (by kernel_rfl) (by kernel_rfl)
noncomputable def allP : Eng.Obj := execO D1 noLoops 65
theorem allP_ok : ObjOk Try.prog 65 allP := execO_plain D1_ok mixed Try.func65 (by kernel_rfl) (by kernel_rfl)
end Go.Proofs.Ytacdadifjgppbaa.Pod
