/- Layer 12's laws: how many pods. -/
import Derived.Test.YtdkebjdhpioehaaWantT
namespace Go.Proofs.Ytdkebjdhpioehaa.Conf
open Go.Eng Go.RowKit Mil
set_option linter.unusedVariables false
set_option linter.unusedSimpArgs false

theorem guards_and {x y g : Bool} (h : g = true) : (bif (x && y) then g else true) = true := by rw [h]; cases x && y <;> rfl
/-- the whole share, as the law reckons it -/
theorem per_go {c : Cf} (h : c.May) : (if 1 > IntKind.wrap .i64 (Int.tdiv (IntKind.wrap .i64 (c.target * c.util)) 1000) then 1 else IntKind.wrap .i64 (Int.tdiv (IntKind.wrap .i64 (c.target * c.util)) 1000)) = perC c ∧ 1 ≤ perC c ∧ perC c ≤ 1000000 := by
  have ht := h.target
  have hu := h.util
  have h1 : 1000 ≤ c.target * c.util := by have := Int.mul_le_mul ht.1 hu.1 (by omega) (by omega); omega
  have h2 : c.target * c.util ≤ c.target * 1000 := Int.mul_le_mul_of_nonneg_left hu.2 (by omega)
  have e : perC c = c.target * c.util / 1000 := by
    unfold perC mulI
    rw [(cut_in _ (by omega) (by omega)).1]; omega
  have e2 : IntKind.wrap .i64 (Int.tdiv (IntKind.wrap .i64 (c.target * c.util)) 1000) = c.target * c.util / 1000 := by
    rw [wrap64_in (n := c.target * c.util) (by omega) (by omega), Int.tdiv_eq_ediv_of_nonneg (by omega), wrap64_in (by omega) (by omega)]
  rw [e, e2, if_neg (by omega)]
  omega
/-- the least number of shares that bear it -/
theorem up_spec (v : Int) {p : Int} (hp : 0 < p) : v ≤ upI v p * p ∧ upI v p * p < v + p := by
  unfold upI
  rw [Int.fdiv_eq_ediv_of_nonneg _ (by omega)]
  have h1 := Int.ediv_mul_le (-v) (b := p) (by omega)
  have h2 := Int.lt_ediv_add_one_mul_self (-v) hp
  rw [Int.neg_mul]
  rw [Int.add_mul] at h2
  omega
theorem up_nonneg {v p : Int} (hv : 0 ≤ v) (hp : 0 < p) : 0 ≤ upI v p ∧ upI v p ≤ v := by
  obtain ⟨h1, h2⟩ := up_spec v hp
  constructor
  · by_cases h : upI v p < 0
    · have : upI v p * p < 0 := Int.mul_neg_of_neg_of_pos h hp
      omega
    · omega
  · by_cases h : v < upI v p
    · have h3 : (v + 1) * p ≤ upI v p * p := Int.mul_le_mul_of_nonneg_right (by omega) (by omega)
      have h4 : v * 1 ≤ v * p := Int.mul_le_mul_of_nonneg_left (by omega) hv
      rw [Int.add_mul] at h3
      omega
    · omega
theorem up_mono {a b p : Int} (h : a ≤ b) (hp : 0 < p) : upI a p ≤ upI b p := by
  unfold upI
  rw [Int.fdiv_eq_ediv_of_nonneg _ (by omega), Int.fdiv_eq_ediv_of_nonneg _ (by omega)]
  have := Int.ediv_le_ediv hp (show -b ≤ -a by omega)
  omega
theorem cutV_mono {a b : Int} (h : a ≤ b) : cutV a ≤ cutV b := by
  unfold cutV; repeat' split
  all_goals omega
theorem clampI_mono {a b lo hi : Int} (h : a ≤ b) (hl : lo ≤ hi) : clampI a lo hi ≤ clampI b lo hi := by
  unfold clampI; repeat' split
  all_goals omega
theorem ofC_mono (c : Cf) {a b : Int} (h : a ≤ b) : ofC c a ≤ ofC c b := by
  unfold ofC
  split
  · rename_i hm
    have hp := perC_pos c
    refine clampI_mono ?_ (by omega)
    unfold upV
    rw [if_neg (by omega), if_neg (by omega)]
    exact cutV_mono (up_mono h (by omega))
  · exact Int.le_refl _
theorem overC_mono (c : Cf) (w : Int) {r s : Int} (h : r ≤ s) (ho : overC c w s = true) : overC c w r = true := by
  unfold overC at *
  rw [Bool.and_eq_true, decide_eq_true_eq] at *
  refine ⟨ho.1, Int.le_trans (Int.mul_le_mul_of_nonneg_left (clampI_mono h (by omega)) ?_) ho.2⟩
  have := (may_of ho.1).threshold
  omega
/-- wanted, of what is no more than ten to the ninth -/
theorem ofC_of {c : Cf} (h : c.May) {v : Int} (hv : 0 ≤ v) (hv2 : v ≤ 9000000000000) : ofC c v = if 1000000 < upI v (perC c) then 1000000 else upI v (perC c) := by
  have hp := perC_pos c
  have h1 := up_nonneg hv (show 0 < perC c by omega)
  unfold ofC upV
  rw [if_pos ((may_iff c).2 h), if_neg (by omega), (cut_in _ (by omega) (by omega)).1]
  unfold clampI
  split
  · rfl
  · rw [if_neg (by omega)]

theorem wantAsks_walk (c : Cf) (hc : c.Ok) (a : Int) (ha : (Lit.int .i64 a).wf = true) (b : Int) (hb : (Lit.int .i64 b).wf = true) (d : Int) (hd : (Lit.int .i64 d).wf = true) (w : World) :
    Calls Try.prog 3 #[.agg #[.int .i64 c.target, .int .i64 c.util, .int .i64 c.stable, .int .i64 c.panic, .int .i64 c.grain, .int .i64 c.threshold, .int .i64 c.up, .int .i64 c.down, .int .i64 c.min, .int .i64 c.max, .int .i64 c.initial, .int .i64 c.grace, .int .i64 c.delay, .int .i64 c.burst, .int .i64 c.limit, .int .i64 c.queue, .int .i64 c.timeout, .int .i64 c.ready, .int .i64 c.subset, .int .i64 c.sample], .int .i64 a, .int .i64 b, .int .i64 d] w fun e w' => e = .returned (.bool true) ∧ Below w.heap.size w w' := by
  refine law_yes (args := [confV c, intV a, intV b, intV d]) (execS_plain WL_ok mixed Try.func3 (by kernel_rfl) (by kernel_rfl)) rfl (yes_anon ?_) w
  have e : T.anon (execS WL noLoops 3 [confV c, intV a, intV b, intV d]) = asksT c a b d := by kernel_rfl
  rw [e]
  have h1 : (inC c && inR a) = true := by rw [inC_ok hc, inR_iff.2 (wf64 ha)]; rfl
  exact yes_then h1 (yes_then h1 (yes_then (grd (inC_ok hc)) (yes_then (grd (inC_ok hc)) (yes_ret (by simp)))))

theorem wantFits_walk (c : Cf) (hc : c.Ok) (a : Int) (ha : (Lit.int .i64 a).wf = true) (w : World) :
    Calls Try.prog 4 #[.agg #[.int .i64 c.target, .int .i64 c.util, .int .i64 c.stable, .int .i64 c.panic, .int .i64 c.grain, .int .i64 c.threshold, .int .i64 c.up, .int .i64 c.down, .int .i64 c.min, .int .i64 c.max, .int .i64 c.initial, .int .i64 c.grace, .int .i64 c.delay, .int .i64 c.burst, .int .i64 c.limit, .int .i64 c.queue, .int .i64 c.timeout, .int .i64 c.ready, .int .i64 c.subset, .int .i64 c.sample], .int .i64 a] w fun e w' => e = .returned (.bool true) ∧ Below w.heap.size w w' := by
  refine law_yes (args := [confV c, intV a]) (execS_plain WL_ok mixed Try.func4 (by kernel_rfl) (by kernel_rfl)) rfl (yes_anon ?_) w
  have e : T.anon (execS WL noLoops 4 [confV c, intV a]) = fitsT c a := by kernel_rfl
  rw [e]
  unfold fitsT
  have hv := modU_range a (m := 1000000000) (by decide)
  rw [modU (by decide) (by decide)]
  generalize (a % 18446744073709551616) % 1000000000 = v at *
  refine yes_ite (fun _ => yes_tt) fun hm => ?_
  have hM := may_of (by simpa using hm)
  obtain ⟨p1, p2, p3⟩ := per_go hM
  rw [p1]
  obtain ⟨u1, u2⟩ := up_spec v (show 0 < perC c by omega)
  have u3 := up_nonneg hv.1 (show 0 < perC c by omega)
  rw [ofC_of hM hv.1 (by omega)]
  generalize upI v (perC c) = q at *
  generalize perC c = p at *
  refine yes_else rfl (yes_then (by rw [inC_ok hc, inR_in (by omega) (by omega)]; rfl) (yes_else rfl ?_))
  have hq : (q - 1) * p = q * p - p := by rw [Int.sub_mul, Int.one_mul]
  have h6 : ∀ m : Int, 0 ≤ m → m ≤ 1000000 → 0 ≤ m * p ∧ m * p ≤ 1000000 * 1000000 := fun m h1 h2 => ⟨Int.mul_nonneg h1 (by omega), Int.mul_le_mul h2 p3 (by omega) (by omega)⟩
  by_cases hc1 : 1000000 < q
  · rw [if_pos hc1]
    refine yes_then rfl (yes_ret ?_)
    have h3 : (1000000 - 1) * p ≤ (q - 1) * p := Int.mul_le_mul_of_nonneg_right (by omega) (by omega)
    have h4 := h6 (1000000 - 1) (by omega) (by omega)
    rw [wrap64_in (n := 1000000 - 1) (by omega) (by omega), wrap64_in (n := (1000000 - 1) * p) (by omega) (by omega), decide_eq_true_eq]
    omega
  · rw [if_neg hc1]
    have h3 := h6 q (by omega) (by omega)
    have e1 : IntKind.wrap .i64 (IntKind.wrap .i64 (q - 1) * p) = q * p - p := by
      rw [wrap64_in (n := q - 1) (by omega) (by omega), hq, wrap64_in (by omega) (by omega)]
    rw [e1, wrap64_in (n := q * p) (by omega) (by omega)]
    refine yes_ite (fun _ => yes_ret ?_) fun _ => yes_ret ?_
    · rw [decide_eq_true_eq]; omega
    · rw [bif_and, bif_or, Bool.and_eq_true, decide_eq_true_eq, Bool.or_eq_true, decide_eq_true_eq]
      exact ⟨by omega, .inr (by omega)⟩

theorem wantMore_walk (c : Cf) (hc : c.Ok) (a : Int) (ha : (Lit.int .i64 a).wf = true) (b : Int) (hb : (Lit.int .i64 b).wf = true) (x : Int) (hx : (Lit.int .i64 x).wf = true) (r : Int) (hr : (Lit.int .i64 r).wf = true) (m : Int) (hm : (Lit.int .i64 m).wf = true) (w : World) :
    Calls Try.prog 5 #[.agg #[.int .i64 c.target, .int .i64 c.util, .int .i64 c.stable, .int .i64 c.panic, .int .i64 c.grain, .int .i64 c.threshold, .int .i64 c.up, .int .i64 c.down, .int .i64 c.min, .int .i64 c.max, .int .i64 c.initial, .int .i64 c.grace, .int .i64 c.delay, .int .i64 c.burst, .int .i64 c.limit, .int .i64 c.queue, .int .i64 c.timeout, .int .i64 c.ready, .int .i64 c.subset, .int .i64 c.sample], .int .i64 a, .int .i64 b, .int .i64 x, .int .i64 r, .int .i64 m] w fun e w' => e = .returned (.bool true) ∧ Below w.heap.size w w' := by
  refine law_yes (args := [confV c, intV a, intV b, intV x, intV r, intV m]) (execS_plain WL_ok mixed Try.func5 (by kernel_rfl) (by kernel_rfl)) rfl (yes_anon ?_) w
  have e : T.anon (execS WL noLoops 5 [confV c, intV a, intV b, intV x, intV r, intV m]) = moreT c a b x r m := by kernel_rfl
  rw [e]
  unfold moreT
  have hv := modU_range r (m := 1000) (by decide)
  have hv2 := modU_range m (m := 1000) (by decide)
  rw [modU (by decide) (by decide), modU (by decide) (by decide)]
  generalize (r % 18446744073709551616) % 1000 = n at *
  generalize (m % 18446744073709551616) % 1000 = k at *
  rw [wrap64_in (n := n + k) (by omega) (by omega)]
  have hover : (bif !overC c x (n + k) then true else overC c x n) = true := by
    cases ho : overC c x (n + k)
    · rfl
    · rw [overC_mono c x (show n ≤ n + k by omega) ho]; rfl
  have ha' : (inC c && inR a) = true := by rw [inC_ok hc, inR_iff.2 (wf64 ha)]; rfl
  have hb' : (inC c && inR b) = true := by rw [inC_ok hc, inR_iff.2 (wf64 hb)]; rfl
  refine yes_ite (fun h => ?_) fun h => ?_
  · rw [decide_eq_true_eq] at h
    refine yes_else rfl (yes_else rfl (yes_then hb' (yes_then ha' (yes_then (guards_and (inC_ok hc)) (yes_then (guards_and (inC_ok hc)) (yes_ret ?_))))))
    rw [hover, decide_eq_true (ofC_mono c (by omega))]; rfl
  · rw [decide_eq_false_iff_not] at h
    refine yes_else rfl (yes_else rfl (yes_then ha' (yes_then hb' (yes_then (guards_and (inC_ok hc)) (yes_then (guards_and (inC_ok hc)) (yes_ret ?_))))))
    rw [hover, decide_eq_true (ofC_mono c (by omega))]; rfl

theorem up_eq {v p q : Int} (hp : 0 < p) (h1 : v ≤ q * p) (h2 : q * p < v + p) : upI v p = q := by
  obtain ⟨h3, h4⟩ := up_spec v hp
  have a : ¬ upI v p < q := fun h => by
    have := Int.mul_le_mul_of_nonneg_right (show upI v p + 1 ≤ q by omega) (show 0 ≤ p by omega)
    rw [Int.add_mul] at this; omega
  have b : ¬ q < upI v p := fun h => by
    have := Int.mul_le_mul_of_nonneg_right (show q + 1 ≤ upI v p by omega) (show 0 ≤ p by omega)
    rw [Int.add_mul] at this; omega
  omega
theorem wantSteps_walk (c : Cf) (hc : c.Ok) (n : Int) (hn : (Lit.int .i64 n).wf = true) (b : Int) (hb : (Lit.int .i64 b).wf = true) (w : World) :
    Calls Try.prog 6 #[.agg #[.int .i64 c.target, .int .i64 c.util, .int .i64 c.stable, .int .i64 c.panic, .int .i64 c.grain, .int .i64 c.threshold, .int .i64 c.up, .int .i64 c.down, .int .i64 c.min, .int .i64 c.max, .int .i64 c.initial, .int .i64 c.grace, .int .i64 c.delay, .int .i64 c.burst, .int .i64 c.limit, .int .i64 c.queue, .int .i64 c.timeout, .int .i64 c.ready, .int .i64 c.subset, .int .i64 c.sample], .int .i64 n, .int .i64 b] w fun e w' => e = .returned (.bool true) ∧ Below w.heap.size w w' := by
  refine law_yes (args := [confV c, intV n, intV b]) (execS_plain WL_ok mixed Try.func6 (by kernel_rfl) (by kernel_rfl)) rfl (yes_anon ?_) w
  have e : T.anon (execS WL noLoops 6 [confV c, intV n, intV b]) = stepsT c n b := by kernel_rfl
  rw [e]
  unfold stepsT
  refine yes_ite (fun _ => yes_tt) fun hm => ?_
  have hM := may_of (by simpa using hm)
  obtain ⟨-, p2, p3⟩ := per_go hM
  have eU : IntKind.wrap .u64 (perC c) = perC c := by rw [wrapu64]; omega
  rw [eU]
  have hv := modU_range n (m := 1000) (by decide)
  have hx := modU_range b (m := perC c) (by omega)
  rw [modU (n := n) (m := 1000) (by decide) (by decide), modU (n := b) (m := perC c) (by omega) (by omega)]
  generalize (n % 18446744073709551616) % 1000 = k at *
  generalize (b % 18446744073709551616) % perC c = x at *
  have h1 : 0 ≤ k * perC c ∧ k * perC c ≤ 999 * 1000000 := ⟨Int.mul_nonneg (by omega) (by omega), Int.mul_le_mul (by omega) p3 (by omega) (by omega)⟩
  rw [wrap64_in (n := k * perC c) (by omega) (by omega), wrap64_in (n := k * perC c + x) (by omega) (by omega), wrap64_in (n := k + 1) (by omega) (by omega)]
  have o1 : ofC c (k * perC c) = k := by
    rw [ofC_of hM h1.1 (by omega), up_eq (q := k) (by omega) (by omega) (by omega), if_neg (by omega)]
  have o2 : 0 < x → ofC c (k * perC c + x) = k + 1 := fun h => by
    rw [ofC_of hM (by omega) (by omega), up_eq (q := k + 1) (by omega) (by rw [Int.add_mul]; omega) (by rw [Int.add_mul]; omega), if_neg (by omega)]
  have o3 : x = 0 → ofC c (k * perC c + x) = k := fun h => by rw [h, Int.add_zero]; exact o1
  have g1 : (inC c && inR (k * perC c + x)) = true := by rw [inC_ok hc, inR_in (by omega) (by omega)]; rfl
  have g2 : (inC c && inR (k * perC c)) = true := by rw [inC_ok hc, inR_in (by omega) (by omega)]; rfl
  refine yes_else rfl (yes_then (inC_ok hc) (yes_else (by rw [beq_eq_false_iff_ne]; omega) (yes_ite (fun h => ?_) fun h => ?_)))
  · rw [decide_eq_true_eq] at h
    refine yes_then g1 (yes_then (guards_and g2) (yes_ret ?_))
    rw [o1, o2 h]; simp
  · rw [decide_eq_false_iff_not] at h
    refine yes_then g1 (yes_then (guards_and g2) (yes_ret ?_))
    rw [o1, o3 (by omega)]; simp

theorem over_dflt (a r : Int) : overC dflt a r = decide (2000 * clampI r 1 1000000 ≤ clampI a 0 1000000 * 1000) := by
  have : mayB dflt = true := by decide
  unfold overC; rw [this]; rfl
theorem wantSudden_walk (a : Int) (ha : (Lit.int .i64 a).wf = true) (w : World) :
    Calls Try.prog 7 #[.int .i64 a] w fun e w' => e = .returned (.bool true) ∧ Below w.heap.size w w' := by
  refine law_yes (args := [intV a]) (execS_plain WL_ok mixed Try.func7 (by kernel_rfl) (by kernel_rfl)) rfl (yes_anon ?_) w
  have e : T.anon (execS WL noLoops 7 [intV a]) = suddenT a := by kernel_rfl
  rw [e]
  unfold suddenT
  have hv := modU_range a (m := 1001) (by decide)
  rw [modU (by decide) (by decide)]
  generalize (a % 18446744073709551616) % 1001 = r at *
  obtain ⟨k, hk⟩ : ∃ k, (if 1 > r then 1 else r) = k := ⟨_, rfl⟩
  have hk2 : 1 ≤ k ∧ k ≤ 1001 ∧ clampI r 1 1000000 = k := by
    unfold clampI; rw [← hk]; repeat' split
    all_goals omega
  rw [hk, wrap64_in (n := 2 * k) (by omega) (by omega), wrap64_in (n := 2 * k - 1) (by omega) (by omega), wrap64_in (n := 2 * k + 1) (by omega) (by omega)]
  refine yes_else rfl (yes_then rfl (yes_then (guards_and rfl) (yes_then (guards_and rfl) (yes_ret ?_))))
  have c1 : ∀ n : Int, 0 ≤ n → n ≤ 3000 → clampI n 0 1000000 = n := fun n h1 h2 => by unfold clampI; rw [if_neg (by omega), if_neg (by omega)]
  rw [over_dflt, over_dflt, over_dflt, hk2.2.2, c1 _ (by omega) (by omega), c1 _ (by omega) (by omega), c1 _ (by omega) (by omega)]
  rw [bif_and, bif_and, Bool.and_eq_true, Bool.and_eq_true, decide_eq_true_eq, decide_eq_true_eq, Bool.not_eq_true', decide_eq_false_iff_not]
  omega
end Go.Proofs.Ytdkebjdhpioehaa.Conf
