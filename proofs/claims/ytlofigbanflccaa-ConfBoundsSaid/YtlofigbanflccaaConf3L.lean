/- Layer 3's laws: bounds, the most. -/
import Derived.Test.YtlofigbanflccaaConf3S
import Derived.Test.YtlofigbanflccaaYes
namespace Go.Proofs.Ytlofigbanflccaa.Conf
open Go.Eng Go.RowKit Mil
set_option linter.unusedVariables false
set_option linter.unusedSimpArgs false

theorem mulI_le {t u : Int} (h1 : 10 ≤ t) (h2 : t ≤ 1000000) (h3 : 100 ≤ u) (h4 : u ≤ 1000) : 1000 ≤ t * u ∧ t * u ≤ t * 1000 := by
  constructor
  · have := Int.mul_le_mul h1 h3 (by omega) (by omega); omega
  · exact Int.mul_le_mul_of_nonneg_left h4 (by omega)
/-- a pod's share: the whole thousandths of the target's part in use -/
theorem per_of {c : Cf} (h : c.May) : perC c = c.target * c.util / 1000 ∧ 1000 ≤ c.target * c.util ∧ c.target * c.util ≤ c.target * 1000 := by
  have hm := mulI_le h.target.1 h.target.2 h.util.1 h.util.2
  have ht := h.target
  have e : cutV (mulI c.target c.util) = c.target * c.util / 1000 := by
    unfold mulI
    exact (cut_in _ (by omega) (by omega)).1
  refine ⟨?_, hm⟩
  unfold perC
  rw [e]
  omega

def boundsL (c : Cf) : Bool := (bif bif bif bif bif bif bif bif decide (c.min ≤ mostC c) then decide (1 ≤ mostC c) else false then decide (mostC c ≤ 100) else false then decide (c.initial ≤ mostC c) else false then decide (1 ≤ perC c) else false then decide (perC c ≤ c.target) else false
  then decide (IntKind.wrap .i64 (perC c * 1000) ≤ IntKind.wrap .i64 (IntKind.wrap .i64 (c.target * c.util) + 999)) else false then decide (c.grain ≤ c.panic) else false then decide (c.panic ≤ c.stable) else false)
theorem bounds_true {c : Cf} (h : c.May) : boundsL c = true := by
  have h1 := most_of h
  obtain ⟨h2, h3, h4⟩ := per_of h
  have ht := h.target
  have hi := h.initial
  have hg := h.grain
  have hp := h.panic
  unfold boundsL
  rw [h2]
  generalize c.target * c.util = P at *
  rw [wrap64_in (n := P / 1000 * 1000) (by omega) (by omega), wrap64_in (n := P) (by omega) (by omega), wrap64_in (n := P + 999) (by omega) (by omega)]
  simp only [bif_and, Bool.and_eq_true, decide_eq_true_eq]
  omega
theorem bounds_walk (c : Cf) (hc : c.Ok) (w : World) : Calls Try.prog 7 #[.agg #[.int .i64 c.target, .int .i64 c.util, .int .i64 c.stable, .int .i64 c.panic, .int .i64 c.grain, .int .i64 c.threshold, .int .i64 c.up, .int .i64 c.down, .int .i64 c.min, .int .i64 c.max, .int .i64 c.initial, .int .i64 c.grace, .int .i64 c.delay, .int .i64 c.burst, .int .i64 c.limit, .int .i64 c.queue, .int .i64 c.timeout, .int .i64 c.ready, .int .i64 c.subset, .int .i64 c.sample]] w fun e w' => e = .returned (.bool true) ∧ Below w.heap.size w w' := by
  refine law_yes (args := [confV c]) (execS_plain C4_ok mixed Try.func7 (by kernel_rfl) (by kernel_rfl)) rfl ?_ w
  have e : execS C4 noLoops 7 [confV c] = T.ite (some 16) (!mayB c) (.ret .tt) (.ite none (inR c.target && inR c.util) (.ret (.s (.bool (boundsL c)))) .fail) := by kernel_rfl
  rw [e]
  refine yes_ite (fun _ => yes_tt) fun h => ?_
  have hm := may_of (by simpa using h)
  refine yes_then ?_ (yes_ret (bounds_true hm))
  rw [Bool.and_eq_true, inR_iff, inR_iff]
  exact ⟨hc.target, hc.util⟩
end Go.Proofs.Ytlofigbanflccaa.Conf
