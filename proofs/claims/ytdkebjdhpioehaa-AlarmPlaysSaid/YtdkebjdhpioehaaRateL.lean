/- Layer 13's laws: not too fast. -/
import Derived.Test.YtdkebjdhpioehaaRateT
namespace Go.Proofs.Ytdkebjdhpioehaa.Conf
open Go.Eng Go.RowKit Mil
set_option linter.unusedVariables false
set_option linter.unusedSimpArgs false

theorem capM_mono {a b : Int} (h : a ≤ b) : capM a ≤ capM b := by
  unfold capM; repeat' split
  all_goals omega
theorem mostR_mono (c : Cf) {a b : Int} (h : a ≤ b) : mostR c a ≤ mostR c b := by
  unfold mostR
  split
  · rename_i hm
    have hu := (may_of hm).up
    exact capM_mono (up_mono (Int.mul_le_mul_of_nonneg_left (clampI_mono h (by omega)) (by omega)) (by decide))
  · exact Int.le_refl _
theorem leastR_mono (c : Cf) {a b : Int} (h : a ≤ b) : leastR c a ≤ leastR c b := by
  unfold leastR
  split
  · rename_i hm
    have hd := (may_of hm).down
    have := clampI_mono h (show (0 : Int) ≤ 1000000 by omega)
    exact Int.ediv_le_ediv (by omega) (by omega)
  · exact Int.le_refl _
theorem midR_mono {l w h l' w' h' : Int} (h1 : l ≤ l') (h2 : w ≤ w') (h3 : h ≤ h') : midR l w h ≤ midR l' w' h' := by
  unfold midR; repeat' split
  all_goals omega
theorem limitR_mono (c : Cf) {w w' a b : Int} (h : w ≤ w') (h2 : a ≤ b) : limitR c w a ≤ limitR c w' b := by
  unfold limitR
  split
  · exact midR_mono (leastR_mono c h2) h (mostR_mono c h2)
  · exact Int.le_refl _
/-- between the bounds -/
theorem rate_between {c : Cf} (h : c.May) {r : Int} (h0 : 0 ≤ r) (h1 : r ≤ 900000) : leastR c r ≤ r ∧ r < mostR c r ∧ (r = 0 ∨ leastR c r < r) ∧ 0 ≤ leastR c r := by
  have hm := (may_iff c).2 h
  have hu := h.up
  have hd := h.down
  have e0 : clampI r 0 1000000 = r := by unfold clampI; rw [if_neg (by omega), if_neg (by omega)]
  have el : leastR c r = 1000 * r / c.down := by unfold leastR; rw [if_pos hm, e0]
  have l0 := Int.ediv_nonneg (a := 1000 * r) (b := c.down) (by omega) (by omega)
  have l1 : 0 < r → 1000 * r / c.down < r := fun hr => Int.ediv_lt_of_lt_mul (by omega) (by
    have : r * 1001 ≤ r * c.down := Int.mul_le_mul_of_nonneg_left (by omega) (by omega)
    omega)
  have em : mostR c r = capM (upI (c.up * clampI r 1 1000000) 1000) := by unfold mostR; rw [if_pos hm]
  have m1 : r < mostR c r := by
    rw [em]
    obtain ⟨R, hR⟩ : ∃ R, clampI r 1 1000000 = R := ⟨_, rfl⟩
    have hR2 : 1 ≤ R ∧ r ≤ R ∧ R ≤ 1000000 := by
      rw [← hR]; unfold clampI; repeat' split
      all_goals omega
    rw [hR]
    have h4 : 1001 * R ≤ c.up * R := Int.mul_le_mul_of_nonneg_right (by omega) (by omega)
    obtain ⟨u1, u2⟩ := up_spec (c.up * R) (show (0 : Int) < 1000 by decide)
    unfold capM; split <;> omega
  rw [el]
  refine ⟨?_, m1, ?_, l0⟩
  · by_cases hr : 0 < r
    · have := l1 hr; omega
    · have : r = 0 := by omega
      subst this; simp
  · by_cases hr : 0 < r
    · exact .inr (l1 hr)
    · exact .inl (by omega)
theorem yes_guard {x y g : Bool} {t : T V} (h : g = true) (h2 : t.yes) : T.yes (.ite none (bif (x && y) then g else true) t .fail) := yes_then (guards_and h) h2

theorem rateAsks_walk (c : Cf) (hc : c.Ok) (a : Int) (ha : (Lit.int .i64 a).wf = true) (b : Int) (hb : (Lit.int .i64 b).wf = true) (w : World) :
    Calls Try.prog 9 #[.agg #[.int .i64 c.target, .int .i64 c.util, .int .i64 c.stable, .int .i64 c.panic, .int .i64 c.grain, .int .i64 c.threshold, .int .i64 c.up, .int .i64 c.down, .int .i64 c.min, .int .i64 c.max, .int .i64 c.initial, .int .i64 c.grace, .int .i64 c.delay, .int .i64 c.burst, .int .i64 c.limit, .int .i64 c.queue, .int .i64 c.timeout, .int .i64 c.ready, .int .i64 c.subset, .int .i64 c.sample], .int .i64 a, .int .i64 b] w fun e w' => e = .returned (.bool true) ∧ Below w.heap.size w w' := by
  refine law_yes (args := [confV c, intV a, intV b]) (execS_plain QL_ok mixed Try.func9 (by kernel_rfl) (by kernel_rfl)) rfl (yes_anon ?_) w
  have e : T.anon (execS QL noLoops 9 [confV c, intV a, intV b]) = rasksT c a b := by kernel_rfl
  rw [e]
  unfold rasksT
  exact yes_then rfl (yes_then rfl (yes_guard rfl (yes_guard rfl (yes_guard rfl (yes_guard rfl (yes_ret (by simp)))))))

theorem rateBetween_walk (c : Cf) (hc : c.Ok) (a : Int) (ha : (Lit.int .i64 a).wf = true) (b : Int) (hb : (Lit.int .i64 b).wf = true) (w : World) :
    Calls Try.prog 10 #[.agg #[.int .i64 c.target, .int .i64 c.util, .int .i64 c.stable, .int .i64 c.panic, .int .i64 c.grain, .int .i64 c.threshold, .int .i64 c.up, .int .i64 c.down, .int .i64 c.min, .int .i64 c.max, .int .i64 c.initial, .int .i64 c.grace, .int .i64 c.delay, .int .i64 c.burst, .int .i64 c.limit, .int .i64 c.queue, .int .i64 c.timeout, .int .i64 c.ready, .int .i64 c.subset, .int .i64 c.sample], .int .i64 a, .int .i64 b] w fun e w' => e = .returned (.bool true) ∧ Below w.heap.size w w' := by
  refine law_yes (args := [confV c, intV a, intV b]) (execS_plain QL_ok mixed Try.func10 (by kernel_rfl) (by kernel_rfl)) rfl (yes_anon ?_) w
  have e : T.anon (execS QL noLoops 10 [confV c, intV a, intV b]) = rbetT c a b := by kernel_rfl
  rw [e]
  unfold rbetT
  rw [modU (n := a) (by decide) (by decide), modU (n := b) (by decide) (by decide)]
  have hv := modU_range a (m := 10000) (by decide)
  have hv2 := modU_range b (m := 10000) (by decide)
  generalize (a % 18446744073709551616) % 10000 = x at *
  generalize (b % 18446744073709551616) % 10000 = r at *
  refine yes_ite (fun _ => yes_tt) fun hm => yes_else rfl (yes_else rfl (yes_then rfl (yes_then rfl (yes_then rfl (yes_ret ?_)))))
  have hM := may_of (by simpa using hm)
  obtain ⟨h1, h2, h3, h4⟩ := rate_between hM hv2.1 (by omega)
  have el : limitR c x r = midR (leastR c r) x (mostR c r) := by unfold limitR; rw [if_pos ((may_iff c).2 hM)]
  rw [el]
  generalize leastR c r = lo at *
  generalize mostR c r = hi at *
  simp only [bif_and, bif_or, Bool.and_eq_true, Bool.or_eq_true, decide_eq_true_eq, beq_iff_eq]
  unfold midR
  repeat' split
  all_goals omega

theorem rateMore_walk (c : Cf) (hc : c.Ok) (a : Int) (ha : (Lit.int .i64 a).wf = true) (b : Int) (hb : (Lit.int .i64 b).wf = true) (x : Int) (hx : (Lit.int .i64 x).wf = true) (y : Int) (hy : (Lit.int .i64 y).wf = true) (w : World) :
    Calls Try.prog 8 #[.agg #[.int .i64 c.target, .int .i64 c.util, .int .i64 c.stable, .int .i64 c.panic, .int .i64 c.grain, .int .i64 c.threshold, .int .i64 c.up, .int .i64 c.down, .int .i64 c.min, .int .i64 c.max, .int .i64 c.initial, .int .i64 c.grace, .int .i64 c.delay, .int .i64 c.burst, .int .i64 c.limit, .int .i64 c.queue, .int .i64 c.timeout, .int .i64 c.ready, .int .i64 c.subset, .int .i64 c.sample], .int .i64 a, .int .i64 b, .int .i64 x, .int .i64 y] w fun e w' => e = .returned (.bool true) ∧ Below w.heap.size w w' := by
  refine law_yes (args := [confV c, intV a, intV b, intV x, intV y]) (execS_plain QL_ok mixed Try.func8 (by kernel_rfl) (by kernel_rfl)) rfl (yes_anon ?_) w
  have e : T.anon (execS QL noLoops 8 [confV c, intV a, intV b, intV x, intV y]) = rmoreT c a b x y := by kernel_rfl
  rw [e]
  unfold rmoreT
  generalize IntKind.wrap IntKind.i64 (Int.tmod (IntKind.wrap IntKind.u64 a) 10000) = a
  generalize IntKind.wrap IntKind.i64 (Int.tmod (IntKind.wrap IntKind.u64 b) 10000) = b
  generalize IntKind.wrap IntKind.i64 (Int.tmod (IntKind.wrap IntKind.u64 x) 10000) = x
  generalize IntKind.wrap IntKind.i64 (Int.tmod (IntKind.wrap IntKind.u64 y) 10000) = y
  refine yes_ite (fun _ => yes_tt) fun hm => yes_else rfl (yes_else rfl (yes_else rfl (yes_else rfl (yes_ite (fun h1 => yes_ite (fun h2 => ?_) fun h2 => ?_) fun h1 => yes_ite (fun h2 => ?_) fun h2 => ?_))))
  all_goals
    simp only [decide_eq_true_eq, decide_eq_false_iff_not] at h1 h2
    refine yes_then rfl (yes_then rfl (yes_guard rfl (yes_guard rfl (yes_guard rfl (yes_guard rfl (yes_guard rfl (yes_guard rfl (yes_ret ?_))))))))
    simp only [bif_and, Bool.and_eq_true, decide_eq_true_eq]
    refine ⟨⟨⟨leastR_mono c (by omega), mostR_mono c (by omega)⟩, limitR_mono c (by omega) (by omega)⟩, limitR_mono c (by omega) (by omega)⟩
end Go.Proofs.Ytdkebjdhpioehaa.Conf
