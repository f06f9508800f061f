/- The laws of layers 14, 16 and 22 that go through no loop. -/
import Derived.Test.YtdkebjdhpioehaaAbzT
namespace Go.Proofs.Ytdkebjdhpioehaa.Conf
open Go.Eng Go.RowKit Mil
set_option linter.unusedVariables false
set_option linter.unusedSimpArgs false

theorem zeroAsks_walk (c : Cf) (hc : c.Ok) (s : Int) (hs : (Lit.int .i64 s).wf = true) (n : Int) (hn : (Lit.int .i64 n).wf = true) (p : Bool) (wa : Int) (_ : (Lit.int .i64 wa).wf = true) (hv : Int) (_ : (Lit.int .i64 hv).wf = true) (m : Int) (_ : (Lit.int .i64 m).wf = true) (x : Int) (_ : (Lit.int .i64 x).wf = true) (b : Int) (_ : (Lit.int .i64 b).wf = true) (w : World) :
    Calls Try.prog 20 #[.agg #[.int .i64 c.target, .int .i64 c.util, .int .i64 c.stable, .int .i64 c.panic, .int .i64 c.grain, .int .i64 c.threshold, .int .i64 c.up, .int .i64 c.down, .int .i64 c.min, .int .i64 c.max, .int .i64 c.initial, .int .i64 c.grace, .int .i64 c.delay, .int .i64 c.burst, .int .i64 c.limit, .int .i64 c.queue, .int .i64 c.timeout, .int .i64 c.ready, .int .i64 c.subset, .int .i64 c.sample], .int .i64 s, .int .i64 n, .bool p, .int .i64 wa, .int .i64 hv, .int .i64 m, .int .i64 x, .int .i64 b] w fun e w' => e = .returned (.bool true) ∧ Below w.heap.size w w' := by
  refine law_yes (args := [confV c, intV s, intV n, .s (.bool p), intV wa, intV hv, intV m, intV x, intV b]) (execS_plain ZL_ok mixed Try.func20 (by kernel_rfl) (by kernel_rfl)) rfl (yes_anon ?_) w
  have e : T.anon (execS ZL noLoops 20 [confV c, intV s, intV n, .s (.bool p), intV wa, intV hv, intV m, intV x, intV b]) = zasksT c s n p wa hv m x b := by kernel_rfl
  rw [e]
  unfold zasksT
  have h1 : (inR s && inR n) = true := by rw [inR_iff.2 (wf64 hs), inR_iff.2 (wf64 hn)]; rfl
  exact yes_guard h1 (yes_guard h1 (yes_guard h1 (yes_guard h1 (yes_ret (by simp)))))

theorem zeroOne_walk (s : Int) (_ : (Lit.int .i64 s).wf = true) (n : Int) (_ : (Lit.int .i64 n).wf = true) (h : Int) (_ : (Lit.int .i64 h).wf = true) (m : Int) (_ : (Lit.int .i64 m).wf = true) (x : Int) (_ : (Lit.int .i64 x).wf = true) (b : Int) (_ : (Lit.int .i64 b).wf = true) (w : World) :
    Calls Try.prog 22 #[.int .i64 s, .int .i64 n, .int .i64 h, .int .i64 m, .int .i64 x, .int .i64 b] w fun e w' => e = .returned (.bool true) ∧ Below w.heap.size w w' := by
  refine law_yes (args := [intV s, intV n, intV h, intV m, intV x, intV b]) (execS_plain ZL_ok mixed Try.func22 (by kernel_rfl) (by kernel_rfl)) rfl (yes_anon ?_) w
  have e : T.anon (execS ZL noLoops 22 [intV s, intV n, intV h, intV m, intV x, intV b]) = zoneT s n h m x b := by kernel_rfl
  rw [e]
  unfold zoneT
  rw [modU (n := s) (by decide) (by decide), modU (n := n) (by decide) (by decide), modU (n := h) (by decide) (by decide), modU (n := m) (by decide) (by decide), modU (n := x) (by decide) (by decide), modU (n := b) (by decide) (by decide)]
  have h1 := modU_range s (m := 100) (by decide)
  have h2 := modU_range n (m := 1000) (by decide)
  have h3 := modU_range h (m := 10) (by decide)
  have h4 := modU_range m (m := 10) (by decide)
  have h5 := modU_range x (m := 10) (by decide)
  have h6 := modU_range b (m := 10) (by decide)
  generalize (s % 18446744073709551616) % 100 = s at *
  generalize (n % 18446744073709551616) % 1000 = n at *
  generalize (h % 18446744073709551616) % 10 = h at *
  generalize (m % 18446744073709551616) % 10 = m at *
  generalize (x % 18446744073709551616) % 10 = x at *
  generalize (b % 18446744073709551616) % 10 = b at *
  rw [wrap64_in (n := m + x) (by omega) (by omega), wrap64_in (n := m + x + b) (by omega) (by omega)]
  refine yes_else rfl (yes_else rfl (yes_else rfl (yes_else rfl (yes_else rfl (yes_else rfl (yes_then (by rw [inR_in (by omega) (by omega), inR_in (by omega) (by omega)]; rfl) (yes_ite (fun g => yes_ret ?_) fun g => yes_ite (fun g2 => yes_guard (by rw [inR_in (by omega) (by omega)]; rfl) (yes_ret ?_)) fun g2 => yes_ret ?_)))))))
  · rw [bif_and] at g
    unfold wantZ
    rw [g]; simp
  · rw [bif_and] at g
    rw [decide_eq_true_eq] at g2
    have hm : mayZ dflt s n m x b = false := by
      unfold mayZ
      by_cases q1 : m = 0
      · by_cases q2 : x = 0
        · rw [show (b == 0) = false by rw [beq_eq_false_iff_ne]; omega]; simp
        · rw [show (x == 0) = false by rw [beq_eq_false_iff_ne]; omega]; simp
      · rw [show (m == 0) = false by rw [beq_eq_false_iff_ne]; omega]; simp
    unfold wantZ
    rw [g, hm]; simp
  · unfold wantZ
    rw [if_neg (by omega)]
    split <;> decide

theorem burstAsks_walk (c : Cf) (hc : c.Ok) (r : Int) (_ : (Lit.int .i64 r).wf = true) (q : Int) (hq : (Lit.int .i64 q).wf = true) (x : Int) (_ : (Lit.int .i64 x).wf = true) (w : World) :
    Calls Try.prog 17 #[.agg #[.int .i64 c.target, .int .i64 c.util, .int .i64 c.stable, .int .i64 c.panic, .int .i64 c.grain, .int .i64 c.threshold, .int .i64 c.up, .int .i64 c.down, .int .i64 c.min, .int .i64 c.max, .int .i64 c.initial, .int .i64 c.grace, .int .i64 c.delay, .int .i64 c.burst, .int .i64 c.limit, .int .i64 c.queue, .int .i64 c.timeout, .int .i64 c.ready, .int .i64 c.subset, .int .i64 c.sample], .int .i64 r, .int .i64 q, .int .i64 x] w fun e w' => e = .returned (.bool true) ∧ Below w.heap.size w w' := by
  refine law_yes (args := [confV c, intV r, intV q, intV x]) (execS_plain BL_ok mixed Try.func17 (by kernel_rfl) (by kernel_rfl)) rfl (yes_anon ?_) w
  have e : T.anon (execS BL noLoops 17 [confV c, intV r, intV q, intV x]) = basksT c r q x := by kernel_rfl
  rw [e]
  unfold basksT
  have h1 : inR q = true := inR_iff.2 (wf64 hq)
  exact yes_then h1 (yes_then h1 (yes_guard rfl (yes_guard rfl (yes_ret (by simp)))))
theorem exc_may {c : Cf} (h : c.May) (hb : c.burst ≠ -1000) {r q : Int} (h0 : 0 ≤ r) (h1 : r ≤ 1000000) (q0 : -9223372036854775808 ≤ r * c.limit * 1000 - q) (q1 : r * c.limit * 1000 - q ≤ 9223372036854775807) (q2 : -9223372036854775808 ≤ r * c.limit * 1000 - q - c.burst) : excB c r q = r * c.limit * 1000 - q - c.burst := by
  unfold excB
  have e0 : clampI r 0 1000000 = r := by unfold clampI; rw [if_neg (by omega), if_neg (by omega)]
  have := h.burst
  rw [if_pos ((may_iff c).2 h), if_neg hb, e0, (cut_in (r * c.limit * 1000 - q) q0 q1).1, (cut_in _ q2 (by omega)).1]
theorem lim_of {c : Cf} (h : c.May) {r : Int} (h0 : 0 ≤ r) (h1 : r ≤ 1001) : 0 ≤ r * c.limit ∧ r * c.limit ≤ 1001000 := by
  have := h.limit
  exact ⟨Int.mul_nonneg h0 (by omega), by have := Int.mul_le_mul h1 this.2 (by omega) (by omega); omega⟩
theorem burstRoom_walk (c : Cf) (hc : c.Ok) (r : Int) (_ : (Lit.int .i64 r).wf = true) (q : Int) (hq : (Lit.int .i64 q).wf = true) (w : World) :
    Calls Try.prog 16 #[.agg #[.int .i64 c.target, .int .i64 c.util, .int .i64 c.stable, .int .i64 c.panic, .int .i64 c.grain, .int .i64 c.threshold, .int .i64 c.up, .int .i64 c.down, .int .i64 c.min, .int .i64 c.max, .int .i64 c.initial, .int .i64 c.grace, .int .i64 c.delay, .int .i64 c.burst, .int .i64 c.limit, .int .i64 c.queue, .int .i64 c.timeout, .int .i64 c.ready, .int .i64 c.subset, .int .i64 c.sample], .int .i64 r, .int .i64 q] w fun e w' => e = .returned (.bool true) ∧ Below w.heap.size w w' := by
  refine law_yes (args := [confV c, intV r, intV q]) (execS_plain BL_ok mixed Try.func16 (by kernel_rfl) (by kernel_rfl)) rfl (yes_anon ?_) w
  have e : T.anon (execS BL noLoops 16 [confV c, intV r, intV q]) = broomT c r q := by kernel_rfl
  rw [e]
  unfold broomT
  rw [modU (n := r) (by decide) (by decide)]
  have h1 := modU_range r (m := 1001) (by decide)
  have h2 : -1000000000 < Int.tmod q 1000000000 ∧ Int.tmod q 1000000000 < 1000000000 := by
    have a := Int.tmod_lt_of_pos q (show (0 : Int) < 1000000000 by decide)
    have b : -1000000000 < Int.tmod q 1000000000 := by
      by_cases h : 0 ≤ q
      · rw [Int.tmod_eq_emod_of_nonneg h]; omega
      · rw [show q = -(-q) by omega, Int.neg_tmod, Int.tmod_eq_emod_of_nonneg (by omega)]; omega
    exact ⟨b, a⟩
  generalize (r % 18446744073709551616) % 1001 = r at *
  generalize Int.tmod q 1000000000 = q at *
  refine yes_ite (fun _ => yes_tt) fun hm => ?_
  rw [bif_or, Bool.or_eq_false_iff, Bool.not_eq_false', beq_eq_false_iff_ne] at hm
  have hM := may_of hm.1
  have hl := lim_of hM h1.1 (by omega)
  have hb := burst_in hM
  have i1 : inR q = true := inR_in (by omega) (by omega)
  refine yes_else rfl (yes_else rfl (yes_then i1 (yes_guard i1 (yes_guard rfl (yes_ret ?_)))))
  rw [wrap64_in (n := r * c.limit) (by omega) (by omega), wrap64_in (n := r * c.limit * 1000) (by omega) (by omega), wrap64_in (n := r * c.limit * 1000 - q) (by omega) (by omega), wrap64_in (n := r * c.limit * 1000 - q - c.burst) (by omega) (by omega),
    wrap64_in (n := 0 - q) (by omega) (by omega), wrap64_in (n := 0 - q - c.burst) (by omega) (by omega), wrap64_in (n := 9223372036854775807 - c.burst) (by omega) (by have := hM.burst; omega)]
  rw [exc_may hM hm.2 h1.1 (by omega) (by omega) (by omega) (by omega)]
  have e5 : excB c (-5) q = 0 - q - c.burst := by
    unfold excB
    rw [if_pos hm.1, if_neg hm.2, show clampI (-5) 0 1000000 = 0 by decide, Int.zero_mul, Int.zero_mul, (cut_in (0 - q) (by omega) (by omega)).1, (cut_in _ (by omega) (by omega)).1]
  have e6 : excB c 0 (-9223372036854775808) = 9223372036854775807 - c.burst := by
    unfold excB
    have := hM.burst
    rw [if_pos hm.1, if_neg hm.2, show clampI 0 0 1000000 = 0 by decide, Int.zero_mul, Int.zero_mul, show cutV (0 - -9223372036854775808) = 9223372036854775807 by decide, (cut_in _ (by omega) (by omega)).1]
  rw [e5, e6]
  simp

theorem burstServes_walk (c : Cf) (hc : c.Ok) (r : Int) (_ : (Lit.int .i64 r).wf = true) (q : Int) (hq : (Lit.int .i64 q).wf = true) (w : World) :
    Calls Try.prog 18 #[.agg #[.int .i64 c.target, .int .i64 c.util, .int .i64 c.stable, .int .i64 c.panic, .int .i64 c.grain, .int .i64 c.threshold, .int .i64 c.up, .int .i64 c.down, .int .i64 c.min, .int .i64 c.max, .int .i64 c.initial, .int .i64 c.grace, .int .i64 c.delay, .int .i64 c.burst, .int .i64 c.limit, .int .i64 c.queue, .int .i64 c.timeout, .int .i64 c.ready, .int .i64 c.subset, .int .i64 c.sample], .int .i64 r, .int .i64 q] w fun e w' => e = .returned (.bool true) ∧ Below w.heap.size w w' := by
  refine law_yes (args := [confV c, intV r, intV q]) (execS_plain BL_ok mixed Try.func18 (by kernel_rfl) (by kernel_rfl)) rfl (yes_anon ?_) w
  have e : T.anon (execS BL noLoops 18 [confV c, intV r, intV q]) = bservT c r q := by kernel_rfl
  rw [e]
  unfold bservT
  rw [modU (n := r) (by decide) (by decide), modU (n := q) (by decide) (by decide)]
  have h1 := modU_range r (m := 1001) (by decide)
  have h2 := modU_range q (m := 1000000000) (by decide)
  generalize (r % 18446744073709551616) % 1001 = r at *
  generalize (q % 18446744073709551616) % 1000000000 = q at *
  refine yes_ite (fun _ => yes_tt) fun hm => ?_
  rw [Bool.not_eq_false'] at hm
  have hM := may_of hm
  have hl := lim_of hM h1.1 (by omega)
  have hb := burst_in hM
  refine yes_else rfl (yes_else rfl (yes_then (inR_in (by omega) (by omega)) (yes_then rfl (yes_ite (fun g => yes_ret ?_) fun g => yes_ite (fun g2 => yes_ret ?_) fun g2 => yes_ret ?_))))
  · rw [bif_or, Bool.or_eq_true, beq_iff_eq, beq_iff_eq] at g
    unfold proxyB
    rcases g with g | g
    · simp [g]
    · simp [g]
  · rw [bif_or, Bool.or_eq_false_iff, beq_eq_false_iff_ne, beq_eq_false_iff_ne] at g
    rw [beq_iff_eq] at g2
    unfold proxyB
    rw [hm, g2, decide_eq_false (show ¬ r < 1 by omega)]; rfl
  · rw [bif_or, Bool.or_eq_false_iff, beq_eq_false_iff_ne, beq_eq_false_iff_ne] at g
    rw [beq_eq_false_iff_ne] at g2
    rw [wrap64_in (n := r * c.limit) (by omega) (by omega), wrap64_in (n := r * c.limit * 1000) (by omega) (by omega), wrap64_in (n := r * c.limit * 1000 - q) (by omega) (by omega)]
    rw [exc_may hM g.1 h1.1 (by omega) (by omega) (by omega) (by omega)]
    have := hM.burst
    unfold proxyB
    rw [hm, show (c.burst == -1000) = false by rw [beq_eq_false_iff_ne]; exact g.1, decide_eq_false (show ¬ r < 1 by omega), decide_eq_true (show 0 < c.burst by omega)]
    simp only [Bool.not_true, Bool.false_or, Bool.true_and, beq_iff_eq]
    by_cases k : r * c.limit * 1000 - q < c.burst
    · rw [decide_eq_true k, decide_eq_true (by omega)]
    · rw [decide_eq_false k, decide_eq_false (by omega)]
theorem excB_mono {c : Cf} {r s p q : Int} (hr : r ≤ s) (hp : q ≤ p) : excB c r p ≤ excB c s q := by
  unfold excB
  split
  · rename_i hm
    split
    · exact Int.le_refl _
    · have hl := (may_of hm).limit
      have h1 := Int.mul_le_mul_of_nonneg_right (clampI_mono hr (show (0 : Int) ≤ 1000000 by omega)) (show 0 ≤ c.limit by omega)
      have h2 : cutV (clampI r 0 1000000 * c.limit * 1000 - p) ≤ cutV (clampI s 0 1000000 * c.limit * 1000 - q) := cutV_mono (by omega)
      exact cutV_mono (by omega)
  · exact Int.le_refl _
theorem proxyB_mono {c : Cf} {r s u v : Int} (hr : r ≤ s) (hu : u ≤ v) : (bif !proxyB c s v then true else proxyB c r u) = true := by
  cases h : proxyB c s v
  · rfl
  · unfold proxyB at *
    simp only [Bool.or_eq_true, Bool.and_eq_true, decide_eq_true_eq] at h
    simp only [Bool.not_true, cond_false, Bool.or_eq_true, Bool.and_eq_true, decide_eq_true_eq]
    rcases h with (h | h) | h
    · exact .inl (.inl h)
    · exact .inl (.inr (by omega))
    · exact .inr ⟨h.1, by omega⟩
theorem burstMore_walk (c : Cf) (hc : c.Ok) (a : Int) (ha : (Lit.int .i64 a).wf = true) (b : Int) (hb : (Lit.int .i64 b).wf = true) (x : Int) (hx : (Lit.int .i64 x).wf = true) (y : Int) (hy : (Lit.int .i64 y).wf = true) (w : World) :
    Calls Try.prog 19 #[.agg #[.int .i64 c.target, .int .i64 c.util, .int .i64 c.stable, .int .i64 c.panic, .int .i64 c.grain, .int .i64 c.threshold, .int .i64 c.up, .int .i64 c.down, .int .i64 c.min, .int .i64 c.max, .int .i64 c.initial, .int .i64 c.grace, .int .i64 c.delay, .int .i64 c.burst, .int .i64 c.limit, .int .i64 c.queue, .int .i64 c.timeout, .int .i64 c.ready, .int .i64 c.subset, .int .i64 c.sample], .int .i64 a, .int .i64 b, .int .i64 x, .int .i64 y] w fun e w' => e = .returned (.bool true) ∧ Below w.heap.size w w' := by
  refine law_yes (args := [confV c, intV a, intV b, intV x, intV y]) (execS_plain BL_ok mixed Try.func19 (by kernel_rfl) (by kernel_rfl)) rfl (yes_anon ?_) w
  have e : T.anon (execS BL noLoops 19 [confV c, intV a, intV b, intV x, intV y]) = bmoreT c a b x y := by kernel_rfl
  rw [e]
  unfold bmoreT
  rw [modU (n := x) (by decide) (by decide), modU (n := y) (by decide) (by decide)]
  have h1 := modU_range x (m := 1000000000) (by decide)
  have h2 := modU_range y (m := 1000000000) (by decide)
  generalize (x % 18446744073709551616) % 1000000000 = x at *
  generalize (y % 18446744073709551616) % 1000000000 = y at *
  generalize IntKind.wrap IntKind.i64 (Int.tmod (IntKind.wrap IntKind.u64 a) 1000) = a
  generalize IntKind.wrap IntKind.i64 (Int.tmod (IntKind.wrap IntKind.u64 b) 1000) = b
  have ix : inR x = true := inR_in (by omega) (by omega)
  have iy : inR y = true := inR_in (by omega) (by omega)
  refine yes_ite (fun _ => yes_tt) fun hm => yes_else rfl (yes_else rfl (yes_else rfl (yes_else rfl (yes_ite (fun h1 => yes_ite (fun h2 => ?_) fun h2 => ?_) fun h1 => yes_ite (fun h2 => ?_) fun h2 => ?_))))
  all_goals
    simp only [decide_eq_true_eq, decide_eq_false_iff_not] at h1 h2
    refine yes_then (by assumption) (yes_then (by assumption) (yes_guard rfl (yes_guard rfl (yes_ret ?_))))
    rw [proxyB_mono (by omega) (excB_mono (by omega) (by omega)), decide_eq_true (excB_mono (by omega) (by omega))]; rfl

theorem alarmAsks_walk (c : Cf) (hc : c.Ok) (s : Int) (hs : (Lit.int .i64 s).wf = true) (m : Int) (hm : (Lit.int .i64 m).wf = true) (n : Int) (hn : (Lit.int .i64 n).wf = true) (o : Bool) (x : Int) (hx : (Lit.int .i64 x).wf = true) (w : World) :
    Calls Try.prog 12 #[.agg #[.int .i64 c.target, .int .i64 c.util, .int .i64 c.stable, .int .i64 c.panic, .int .i64 c.grain, .int .i64 c.threshold, .int .i64 c.up, .int .i64 c.down, .int .i64 c.min, .int .i64 c.max, .int .i64 c.initial, .int .i64 c.grace, .int .i64 c.delay, .int .i64 c.burst, .int .i64 c.limit, .int .i64 c.queue, .int .i64 c.timeout, .int .i64 c.ready, .int .i64 c.subset, .int .i64 c.sample], .agg #[.int .i64 s, .int .i64 m], .int .i64 n, .bool o, .int .i64 x] w fun e w' => e = .returned (.bool true) ∧ Below w.heap.size w w' := by
  refine law_yes (args := [confV c, modeV s m, intV n, .s (.bool o), intV x]) (execS_plain AL_ok mixed Try.func12 (by kernel_rfl) (by kernel_rfl)) rfl (yes_anon ?_) w
  have e : T.anon (execS AL noLoops 12 [confV c, modeV s m, intV n, .s (.bool o), intV x]) = aasksT c s m n o x := by kernel_rfl
  rw [e]
  unfold aasksT
  have h1 : (inR s && inR n) = true := by rw [inR_iff.2 (wf64 hs), inR_iff.2 (wf64 hn)]; rfl
  exact yes_then h1 (yes_then h1 (yes_ret (by simp)))
theorem nx_true {c : Cf} (hm : mayB c = true) {m : Md} {n : Int} (h0 : 0 ≤ n) (h1 : n ≤ 1099511627776) : nextA c m n true = ⟨n, if m.since < 0 then 0 else m.most⟩ := by
  unfold nextA
  rw [hm, decide_eq_false (show ¬ n < 0 by omega), decide_eq_false (show ¬ 1099511627776 < n by omega)]
  simp
theorem nx_false {c : Cf} (hm : mayB c = true) {m : Md} {n : Int} (h0 : 0 ≤ n) (h1 : n ≤ 1099511627776) (hs : 0 ≤ m.since) : nextA c m n false = if c.stable ≤ n - m.since then ⟨-1, 0⟩ else m := by
  unfold nextA
  rw [hm, decide_eq_false (show ¬ n < 0 by omega), decide_eq_false (show ¬ 1099511627776 < n by omega)]
  simp only [Bool.not_true, Bool.or_self, Bool.false_eq_true, if_false]
  rw [if_neg (by omega)]
theorem stable_may {s : Int} (h : 6 ≤ s) (h2 : s ≤ 600) : mayB (withStable dflt s) = true := by
  have m : dflt.May := may_of (by decide)
  exact (may_iff _).2 ⟨m.target, m.util, ⟨h, h2⟩, ⟨m.panic.1, by have : (withStable dflt s).panic = 6 := rfl; rw [this]; exact h⟩, m.grain, m.threshold, m.up, m.down, m.min, m.max, m.initial, m.grace, m.delay, m.burst, m.limit, m.queue, m.timeout, m.ready, m.subset, m.sample⟩
theorem alarmEnds_walk (a : Int) (_ : (Lit.int .i64 a).wf = true) (b : Int) (_ : (Lit.int .i64 b).wf = true) (d : Int) (_ : (Lit.int .i64 d).wf = true) (w : World) :
    Calls Try.prog 14 #[.int .i64 a, .int .i64 b, .int .i64 d] w fun e w' => e = .returned (.bool true) ∧ Below w.heap.size w w' := by
  refine law_yes (args := [intV a, intV b, intV d]) (execS_plain AL_ok mixed Try.func14 (by kernel_rfl) (by kernel_rfl)) rfl (yes_anon ?_) w
  have e : T.anon (execS AL noLoops 14 [intV a, intV b, intV d]) = aendsT a b d := by kernel_rfl
  rw [e]
  unfold aendsT
  rw [modU (n := a) (by decide) (by decide), modU (n := b) (by decide) (by decide)]
  have h1 := modU_range a (m := 595) (by decide)
  have h2 := modU_range b (m := 1000000) (by decide)
  generalize (a % 18446744073709551616) % 595 = a at *
  generalize (b % 18446744073709551616) % 1000000 = t at *
  rw [wrap64_in (n := 6 + a) (by omega) (by omega)]
  obtain ⟨s, hs⟩ : ∃ s, 6 + a = s := ⟨_, rfl⟩
  rw [hs, show IntKind.wrap .u64 s = s by rw [wrapu64]; omega, modU (n := d) (m := s) (by omega) (by omega)]
  have h3 := modU_range d (m := s) (by omega)
  generalize (d % 18446744073709551616) % s = k at *
  rw [wrap64_in (n := t + s) (by omega) (by omega), wrap64_in (n := t + s - 1) (by omega) (by omega), wrap64_in (n := t + k) (by omega) (by omega), wrap64_in (n := t + s + k) (by omega) (by omega), wrap64_in (n := t + s + k - 1) (by omega) (by omega)]
  have hM := stable_may (s := s) (by omega) (by omega)
  have hst : (withStable dflt s).stable = s := rfl
  have e1 : nextA (withStable dflt s) ⟨-1, 0⟩ t true = ⟨t, 0⟩ := by rw [nx_true hM (by omega) (by omega)]; rfl
  have e2 : nextA (withStable dflt s) ⟨t, 0⟩ (t + s - 1) false = ⟨t, 0⟩ := by rw [nx_false hM (by omega) (by omega) h2.1, hst, if_neg (by show ¬ s ≤ t + s - 1 - t; omega)]
  have e3 : nextA (withStable dflt s) ⟨t, 0⟩ (t + s) false = ⟨-1, 0⟩ := by rw [nx_false hM (by omega) (by omega) h2.1, hst, if_pos (by show s ≤ t + s - t; omega)]
  have e4 : nextA (withStable dflt s) ⟨t, 0⟩ (t + k) true = ⟨t + k, 0⟩ := by rw [nx_true hM (by omega) (by omega)]; simp
  have e5 : nextA (withStable dflt s) ⟨t + k, 0⟩ (t + s + k - 1) false = ⟨t + k, 0⟩ := by rw [nx_false hM (by omega) (by omega) (show (0 : Int) ≤ t + k by omega), hst, if_neg (by show ¬ s ≤ t + s + k - 1 - (t + k); omega)]
  have e6 : nextA (withStable dflt s) ⟨t + k, 0⟩ (t + s + k) false = ⟨-1, 0⟩ := by rw [nx_false hM (by omega) (by omega) (show (0 : Int) ≤ t + k by omega), hst, if_pos (by show s ≤ t + s + k - (t + k); omega)]
  simp only [e1, e2, e3, e4, e5, e6]
  have ii : ∀ {x y : Int}, -9223372036854775808 ≤ x → x ≤ 9223372036854775807 → -9223372036854775808 ≤ y → y ≤ 9223372036854775807 → (inR x && inR y) = true := fun a b c d => by rw [inR_in a b, inR_in c d]; rfl
  refine yes_else rfl (yes_else rfl (yes_else (by rw [beq_eq_false_iff_ne]; omega) (yes_then (ii (by omega) (by omega) (by omega) (by omega)) (yes_then (ii (by omega) (by omega) (by omega) (by omega)) (yes_then (ii (by omega) (by omega) (by omega) (by omega)) (yes_then (ii (by omega) (by omega) (by omega) (by omega)) (yes_then (ii (by omega) (by omega) (by omega) (by omega)) (yes_then (ii (by omega) (by omega) (by omega) (by omega)) (yes_ret ?_)))))))))
  rw [decide_eq_true (show (0 : Int) ≤ t by omega), decide_eq_true (show (0 : Int) ≤ t + k by omega)]
  simp
end Go.Proofs.Ytdkebjdhpioehaa.Conf
