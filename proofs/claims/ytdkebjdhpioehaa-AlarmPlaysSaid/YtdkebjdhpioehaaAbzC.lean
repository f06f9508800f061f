/- Package zero's Want; what is told of a few in layers 22; the laws' contracts. -/
import Derived.Test.YtdkebjdhpioehaaAbzS
namespace Go.Proofs.Ytdkebjdhpioehaa.Conf
open Go.Eng Go.RowKit Mil
set_option linter.unusedVariables false
set_option linter.unusedSimpArgs false

theorem zwant_tree {c : Cf} {s n wa hv m w b : Int} (hg : (inR s && inR n) = true) : (T.ite none (decide (0 < wa)) (T.ret (intV wa)) (T.ite none (bif (bif hv == 0 then w == 0 else false) == false && true then inR s && inR n else true) (T.ite none (bif bif hv == 0 then w == 0 else false then true else mayZ c s n m w b) (T.ret (intV 0)) (T.ret (intV 1))) T.fail)).eval = some (intV (wantZ c s n wa hv m w b)) := by
  unfold wantZ
  refine ev_ite (fun h => ?_) fun h => ev_then (guards_and hg) (ev_ite (fun h2 => ?_) fun h2 => ?_) <;> simp only [decide_eq_true_eq, decide_eq_false_iff_not] at h
  · exact ev_int (by rw [if_pos h])
  · rw [bif_or, bif_and] at h2
    exact ev_int (by rw [if_neg h, if_pos h2])
  · rw [bif_or, bif_and] at h2
    exact ev_int (by rw [if_neg h, if_neg (by simp [h2])])
theorem zwant_ok : SpecOk Try.prog 56 zwantS := by
  refine (execS_plain Z2_ok mixed Try.func56 (by kernel_rfl) (by kernel_rfl)).of_den fun args v hfl h => ?_
  clear hfl
  unfold zwantS at h
  split at h
  · rename_i x s n wa hv m w b
    obtain ⟨c, rfl, h⟩ := asConf_some h
    obtain ⟨hc, h⟩ := guard_eval h
    obtain rfl := Option.some.inj h
    refine ⟨_, ?_, ⟨rfl, rfl⟩, rfl⟩
    have e : T.anon (execS Z2 noLoops 56 [confV c, .agg [.s (.int .i64 s)], .s (.int .i64 n), .s (.int .i64 wa), .s (.int .i64 hv), .s (.int .i64 m), .s (.int .i64 w), .s (.int .i64 b)]) = T.ite none (decide (0 < wa)) (T.ret (intV wa)) (T.ite none (bif (bif hv == 0 then w == 0 else false) == false && true then inR s && inR n else true) (T.ite none (bif bif hv == 0 then w == 0 else false then true else mayZ c s n m w b) (T.ret (intV 0)) (T.ret (intV 1))) T.fail) := by kernel_rfl
    rw [← T.eval_anon, e]
    exact zwant_tree hc
  · cases h
theorem zrwant_ok : SpecOk Try.prog 57 zrwantS := by
  refine (execS_plain Z2_ok mixed Try.func57 (by kernel_rfl) (by kernel_rfl)).of_den fun args v hfl h => ?_
  clear hfl
  unfold zrwantS at h
  split at h
  · rename_i x s n wa hv m w b
    obtain ⟨c, rfl, h⟩ := asConf_some h
    obtain ⟨hc, h⟩ := guard_eval h
    obtain rfl := Option.some.inj h
    refine ⟨_, ?_, ⟨rfl, rfl⟩, rfl⟩
    have e : T.anon (execS Z2 noLoops 57 [confV c, .s (.int .i64 s), .s (.int .i64 n), .s (.int .i64 wa), .s (.int .i64 hv), .s (.int .i64 m), .s (.int .i64 w), .s (.int .i64 b)]) = T.ite none (decide (0 < wa)) (T.ret (intV wa)) (T.ite none (bif (bif hv == 0 then w == 0 else false) == false && true then inR s && inR n else true) (T.ite none (bif bif hv == 0 then w == 0 else false then true else mayZ c s n m w b) (T.ret (intV 0)) (T.ret (intV 1))) T.fail) := by kernel_rfl
    rw [← T.eval_anon, e]
    exact zwant_tree hc
  · cases h
noncomputable def ZT : Cfg := ⟨Try.prog, lookG [(58, znewS), (52, znextS), (54, zmayS), (56, zwantS), (30, dfltS)], [], 0⟩
theorem ZT_ok : ZT.Ok := Cfg.ok ⟨znew_ok, znext_ok, zmay_ok, zwant_ok, refdflt_ok, trivial⟩ trivial
theorem told22_ok : SpecOk Try.prog 51 yesS :=
  SpecOk.yes (execS_plain ZT_ok mixed Try.func51 (by kernel_rfl) (by kernel_rfl)) (.inl (by kernel_rfl))
noncomputable def ZL : Cfg := ⟨Try.prog, lookG [(51, yesS), (58, znewS), (52, znextS), (54, zmayS), (56, zwantS), (53, zrefS), (55, zrmayS), (57, zrwantS), (30, dfltS)], [], 0⟩
theorem ZL_ok : ZL.Ok := Cfg.ok ⟨told22_ok, znew_ok, znext_ok, zmay_ok, zwant_ok, zref_ok, zrmay_ok, zrwant_ok, refdflt_ok, trivial⟩ trivial
def withStable (c : Cf) (s : Int) : Cf := { c with stable := s }
end Go.Proofs.Ytdkebjdhpioehaa.Conf
