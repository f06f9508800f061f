/- Layer 3's laws: what the document answers. -/
import Derived.Test.YtlofigbanflccaaConf3R
namespace Go.Proofs.Ytlofigbanflccaa.Conf
open Go.Eng Go.RowKit Mil
set_option linter.unusedVariables false
set_option linter.unusedSimpArgs false

theorem refmost_ok : SpecOk Try.prog 21 mostS := by
  refine (execS_plain C0_ok mixed Try.func21 (by kernel_rfl) (by kernel_rfl)).of_den fun args v hfl h => ?_
  clear hfl
  unfold mostS at h
  split at h
  · obtain ⟨c, rfl, h2⟩ := asConf_some h
    obtain rfl := Option.some.inj h2
    clear h h2
    have e : T.anon (execS C0 noLoops 21 [confV c]) = T.ite none (c.max == 0) (.ret (intV 100)) (.ret (intV c.max)) := by kernel_rfl
    rw [← T.eval_anon, e]
    cases h1 : c.max == 0
    · exact ⟨_, rfl, ⟨rfl, rfl⟩, by simp at h1; simp [intV, V.den, S.den, mostC, h1]⟩
    · exact ⟨_, rfl, ⟨rfl, rfl⟩, by simp at h1; simp [intV, V.den, S.den, mostC, h1]⟩
  · cases h
theorem refper_ok : SpecOk Try.prog 19 perS := by
  refine (execS_plain R2_ok mixed Try.func19 (by kernel_rfl) (by kernel_rfl)).of_den fun args v hfl h => ?_
  clear hfl
  unfold perS at h
  split at h
  · obtain ⟨c, rfl, h2⟩ := asConf_some h
    have e : execS R2 noLoops 19 [confV c] = .ite none (inR c.target && inR c.util) (.ret (intV (if 1 > cutV (mulI c.target c.util) then 1 else cutV (mulI c.target c.util)))) .fail := by kernel_rfl
    rw [e, max_one]
    exact ⟨_, h2, by obtain ⟨_, h3⟩ := guard_eval h2; obtain rfl := Option.some.inj h3; exact ⟨rfl, rfl⟩, rfl⟩
  · cases h
noncomputable def C5 : Cfg := ⟨Try.prog, lookG [(13, toldS), (14, wrongS), (15, mayS), (20, mostS), (16, perS), (17, wrongS), (18, mayS), (19, perS), (21, mostS)], []⟩
theorem C5_ok : C5.Ok := Cfg.ok ⟨told_ok, wrong_ok, may_ok, most_ok, per_ok, refwrong_ok, refmay_ok, refper_ok, refmost_ok, trivial⟩ trivial
def asks1 (c : Cf) : Bool := bytes (wrongL c) == bytes (wrongL c)
def asks2 (c : Cf) : Bool := bif asks1 c then mayB c == mayB c else false
def asks3 (c : Cf) : Bool := bif asks2 c then perC c == perC c else false
def asks4 (c : Cf) : Bool := bif asks3 c then mostC c == mostC c else false
theorem asks_true (c : Cf) : asks4 c = true := by
  unfold asks4 asks3 asks2 asks1
  simp
theorem asks_walk (c : Cf) (hc : c.Ok) (w : World) : Calls Try.prog 5 #[.agg #[.int .i64 c.target, .int .i64 c.util, .int .i64 c.stable, .int .i64 c.panic, .int .i64 c.grain, .int .i64 c.threshold, .int .i64 c.up, .int .i64 c.down, .int .i64 c.min, .int .i64 c.max, .int .i64 c.initial, .int .i64 c.grace, .int .i64 c.delay, .int .i64 c.burst, .int .i64 c.limit, .int .i64 c.queue, .int .i64 c.timeout, .int .i64 c.ready, .int .i64 c.subset, .int .i64 c.sample]] w fun e w' => e = .returned (.bool true) ∧ Below w.heap.size w w' := by
  refine law_yes (args := [confV c]) (execS_plain C5_ok mixed Try.func5 (by kernel_rfl) (by kernel_rfl)) rfl (yes_anon ?_) w
  have e : T.anon (execS C5 noLoops 5 [confV c]) = T.ite none (bif (asks2 c == true) && true then inR c.target && inR c.util else true) (T.ite none (bif (asks2 c == true) && true then inR c.target && inR c.util else true) (.ret (.s (.bool (asks4 c)))) .fail) .fail := by kernel_rfl
  rw [e]
  have hin : (inR c.target && inR c.util) = true := by rw [Bool.and_eq_true, inR_iff, inR_iff]; exact ⟨hc.target, hc.util⟩
  have h1 : (bif (asks2 c == true) && true then inR c.target && inR c.util else true) = true := by rw [hin]; cases (asks2 c == true) && true <;> rfl
  exact yes_then h1 (yes_then h1 (yes_ret (asks_true c)))
end Go.Proofs.Ytlofigbanflccaa.Conf
