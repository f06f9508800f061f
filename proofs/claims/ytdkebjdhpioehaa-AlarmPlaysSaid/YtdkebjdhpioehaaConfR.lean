/- The document's own answer for settings, by the machine. -/
import Derived.Test.YtdkebjdhpioehaaConfS
import Derived.Test.YtdkebjdhpioehaaYes
import Derived.Test.YtdkebjdhpioehaaEngC
namespace Go.Proofs.Ytdkebjdhpioehaa.Conf
open Go.Eng Go.RowKit Mil
set_option linter.unusedVariables false
set_option linter.unusedSimpArgs false

noncomputable def valuesS : Eng.Spec := execS C0 noLoops 82
noncomputable def namesS : Eng.Spec := execS C0 noLoops 84
noncomputable def betweenS : Eng.Spec := execS C0 noLoops 83
theorem values_ok : SpecOk Try.prog 82 valuesS := execS_plain C0_ok mixed Try.func82 (by kernel_rfl) (by kernel_rfl)
theorem names_ok : SpecOk Try.prog 84 namesS := execS_plain C0_ok mixed Try.func84 (by kernel_rfl) (by kernel_rfl)
theorem between_ok : SpecOk Try.prog 83 betweenS := execS_plain C0_ok mixed Try.func83 (by kernel_rfl) (by kernel_rfl)
noncomputable def R1 : Cfg := ⟨Try.prog, lookG [(82, valuesS), (84, namesS), (83, betweenS)], [], 0⟩
theorem R1_ok : R1.Ok := Cfg.ok ⟨values_ok, names_ok, between_ok, trivial⟩ trivial
def rwT (top : Int) (c : Cf) : T V :=
  .ite none (!bif decide (10 ≤ c.target) then decide (c.target ≤ 1000000) else false) (.ret (strV [116, 97, 114, 103, 101, 116])) (
  .ite none (!bif decide (100 ≤ c.util) then decide (c.util ≤ 1000) else false) (.ret (strV [117, 116, 105, 108])) (
  .ite none (!bif decide (6 ≤ c.stable) then decide (c.stable ≤ 600) else false) (.ret (strV [115, 116, 97, 98, 108, 101])) (
  .ite none (!bif decide (1 ≤ c.panic) then decide (c.panic ≤ c.stable) else false) (.ret (strV [112, 97, 110, 105, 99])) (
  .ite none (!bif decide (1 ≤ c.grain) then decide (c.grain ≤ c.panic) else false) (.ret (strV [103, 114, 97, 105, 110])) (
  .ite none (!bif decide (1100 ≤ c.threshold) then decide (c.threshold ≤ 10000) else false) (.ret (strV [116, 104, 114, 101, 115, 104, 111, 108, 100])) (
  .ite none (!bif decide (1001 ≤ c.up) then decide (c.up ≤ 1000000) else false) (.ret (strV [117, 112])) (
  .ite none (!bif decide (1001 ≤ c.down) then decide (c.down ≤ 1000000) else false) (.ret (strV [100, 111, 119, 110])) (
  .ite none (!bif decide (0 ≤ c.min) then decide (c.min ≤ 100) else false) (.ret (strV [109, 105, 110])) (
  .ite none (!bif c.max == 0 then true else bif decide ((if 1 > c.min then 1 else c.min) ≤ c.max) then decide (c.max ≤ 100) else false) (.ret (strV [109, 97, 120])) (
  .ite none (!bif decide (0 ≤ c.initial) then decide (c.initial ≤ top) else false) (.ret (strV [105, 110, 105, 116, 105, 97, 108])) (
  .ite none (!bif decide (0 ≤ c.grace) then decide (c.grace ≤ 600) else false) (.ret (strV [103, 114, 97, 99, 101])) (
  .ite none (!bif decide (0 ≤ c.delay) then decide (c.delay ≤ 600) else false) (.ret (strV [100, 101, 108, 97, 121])) (
  .ite none (!bif c.burst == -1000 then true else bif decide (0 ≤ c.burst) then decide (c.burst ≤ 100000000) else false) (.ret (strV [98, 117, 114, 115, 116])) (
  .ite none (!bif decide (1 ≤ c.limit) then decide (c.limit ≤ 1000) else false) (.ret (strV [108, 105, 109, 105, 116])) (
  .ite none (!bif decide (0 ≤ c.queue) then decide (c.queue ≤ 200) else false) (.ret (strV [113, 117, 101, 117, 101])) (
  .ite none (!bif decide (1 ≤ c.timeout) then decide (c.timeout ≤ 10000) else false) (.ret (strV [116, 105, 109, 101, 111, 117, 116])) (
  .ite none (!bif decide (0 ≤ c.ready) then decide (c.ready ≤ 100) else false) (.ret (strV [114, 101, 97, 100, 121])) (
  .ite none (!bif decide (0 ≤ c.subset) then decide (c.subset ≤ 100) else false) (.ret (strV [115, 117, 98, 115, 101, 116])) (
  .ite none (!bif decide (0 ≤ c.sample) then decide (c.sample ≤ 100) else false) (.ret (strV [115, 97, 109, 112, 108, 101])) (
  .ret (strV [])))))))))))))))))))))
def rwL (top : Int) (c : Cf) : List UInt8 :=
  if outB c.target 10 1000000 = true then [116, 97, 114, 103, 101, 116] else
  if outB c.util 100 1000 = true then [117, 116, 105, 108] else
  if outB c.stable 6 600 = true then [115, 116, 97, 98, 108, 101] else
  if outB c.panic 1 c.stable = true then [112, 97, 110, 105, 99] else
  if outB c.grain 1 c.panic = true then [103, 114, 97, 105, 110] else
  if outB c.threshold 1100 10000 = true then [116, 104, 114, 101, 115, 104, 111, 108, 100] else
  if outB c.up 1001 1000000 = true then [117, 112] else
  if outB c.down 1001 1000000 = true then [100, 111, 119, 110] else
  if outB c.min 0 100 = true then [109, 105, 110] else
  if (!(c.max == 0) && outB c.max (max c.min 1) 100) = true then [109, 97, 120] else
  if outB c.initial 0 top = true then [105, 110, 105, 116, 105, 97, 108] else
  if outB c.grace 0 600 = true then [103, 114, 97, 99, 101] else
  if outB c.delay 0 600 = true then [100, 101, 108, 97, 121] else
  if (!(c.burst == -1000) && outB c.burst 0 100000000) = true then [98, 117, 114, 115, 116] else
  if outB c.limit 1 1000 = true then [108, 105, 109, 105, 116] else
  if outB c.queue 0 200 = true then [113, 117, 101, 117, 101] else
  if outB c.timeout 1 10000 = true then [116, 105, 109, 101, 111, 117, 116] else
  if outB c.ready 0 100 = true then [114, 101, 97, 100, 121] else
  if outB c.subset 0 100 = true then [115, 117, 98, 115, 101, 116] else
  if outB c.sample 0 100 = true then [115, 97, 109, 112, 108, 101] else
  []
theorem in_out (n lo hi : Int) : (!bif decide (lo ≤ n) then decide (n ≤ hi) else false) = outB n lo hi := by
  unfold outB
  rw [bif_and, Bool.not_and, ← decide_not, ← decide_not]
  congr 1 <;> (congr 1; exact propext (by omega))
theorem or_out (n m lo hi : Int) : (!bif n == m then true else bif decide (lo ≤ n) then decide (n ≤ hi) else false) = (!(n == m) && outB n lo hi) := by
  rw [← in_out]
  cases n == m <;> rfl
theorem rw_eval (top : Int) (c : Cf) : (rwT top c).eval = some (strV (rwL top c)) := by
  unfold rwT rwL
  simp only [in_out, or_out]
  rw [max_one]
  exact T_step rfl (T_step rfl (T_step rfl (T_step rfl (T_step rfl (T_step rfl (T_step rfl (T_step rfl (T_step rfl (T_step rfl (T_step rfl (T_step rfl (T_step rfl (T_step rfl (T_step rfl (T_step rfl (T_step rfl (T_step rfl (T_step rfl (T_step rfl (rfl))))))))))))))))))))
theorem rwL_most (c : Cf) : rwL (mostC c) c = wrongL c := rfl
theorem rwL_neg (a b : Int) (c : Cf) (h : c.max < 0) : rwL a c = rwL b c := by
  have e : (!(c.max == 0) && outB c.max (max c.min 1) 100) = true := by
    have h1 : (c.max == 0) = false := by simp; omega
    have h2 : outB c.max (max c.min 1) 100 = true := by
      unfold outB
      rw [decide_eq_true (by omega)]; rfl
    rw [h1, h2]; rfl
  unfold rwL
  rw [e]
  rfl
theorem rw_all (c : Cf) : (T.ite none (decide (0 < c.max)) (rwT c.max c) (rwT 100 c)).eval = some (strV (wrongL c)) := by
  by_cases h : 0 < c.max
  · rw [decide_eq_true h]
    show (rwT c.max c).eval = _
    rw [rw_eval, ← rwL_most, show mostC c = c.max from if_neg (by omega)]
  · rw [decide_eq_false h]
    show (rwT 100 c).eval = _
    rw [rw_eval, ← rwL_most]
    by_cases h0 : c.max = 0
    · rw [show mostC c = 100 from if_pos h0]
    · rw [rwL_neg 100 (mostC c) c (by omega)]
theorem refwrong_ok : SpecOk Try.prog 65 wrongS := by
  refine (execS_rounds R1_ok mixed 21 1 Try.func65 (by kernel_rfl) (by kernel_rfl)).of_den fun args v hfl h => ?_
  clear hfl
  unfold wrongS at h
  split at h
  · obtain ⟨c, rfl, h2⟩ := asConf_some h
    obtain rfl := Option.some.inj h2
    clear h h2
    have e : T.anon (execS R1 (rounds R1 21 1) 65 [confV c]) = T.ite none (decide (0 < c.max)) (rwT c.max c) (rwT 100 c) := by kernel_rfl
    rw [← T.eval_anon, e, rw_all]
    exact ⟨_, rfl, ⟨rfl, rfl⟩, rfl⟩
  · cases h
noncomputable def R2 : Cfg := ⟨Try.prog, lookG [(65, wrongS), (66, mulS)], [], 0⟩
theorem R2_ok : R2.Ok := Cfg.ok ⟨refwrong_ok, refmul_ok, trivial⟩ trivial
theorem refmay_ok : SpecOk Try.prog 28 mayS := by
  refine (execS_plain R2_ok mixed Try.func28 (by kernel_rfl) (by kernel_rfl)).of_den fun args v hfl h => ?_
  clear hfl
  unfold mayS at h
  split at h
  · obtain ⟨c, rfl, h2⟩ := asConf_some h
    obtain rfl := Option.some.inj h2
    clear h h2
    have e : execS R2 noLoops 28 [confV c] = .ret (.s (.bool ((⟨⟨wrongL c⟩⟩ : ByteArray).toList == (⟨#[]⟩ : ByteArray).toList))) := by kernel_rfl
    rw [e, bytes_empty]
    exact ⟨_, rfl, ⟨rfl, rfl⟩, rfl⟩
  · cases h
theorem refper_ok : SpecOk Try.prog 29 perS := by
  refine (execS_plain R2_ok mixed Try.func29 (by kernel_rfl) (by kernel_rfl)).of_den fun args v hfl h => ?_
  clear hfl
  unfold perS at h
  split at h
  · obtain ⟨c, rfl, h2⟩ := asConf_some h
    have e : execS R2 noLoops 29 [confV c] = .ite none (inR c.target && inR c.util) (.ret (intV (if 1 > cutV (mulI c.target c.util) then 1 else cutV (mulI c.target c.util)))) .fail := by kernel_rfl
    rw [e, max_one]
    exact ⟨_, h2, by obtain ⟨_, h3⟩ := guard_eval h2; obtain rfl := Option.some.inj h3; exact ⟨rfl, rfl⟩, rfl⟩
  · cases h
end Go.Proofs.Ytdkebjdhpioehaa.Conf
