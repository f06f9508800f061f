/- Layer 13's law with loops: let up and down as fast as may be. -/
import Derived.Test.YtdkebjdhpioehaaRateL
import Derived.Test.YtdkebjdhpioehaaEngE
namespace Go.Proofs.Ytdkebjdhpioehaa.Conf
open Go.Eng Go.RowKit Mil
set_option linter.unusedVariables false
set_option linter.unusedSimpArgs false

def cfOf : List V → Option Cf
  | [.s (.int .i64 a0), .s (.int .i64 a1), .s (.int .i64 a2), .s (.int .i64 a3), .s (.int .i64 a4), .s (.int .i64 a5), .s (.int .i64 a6), .s (.int .i64 a7), .s (.int .i64 a8), .s (.int .i64 a9), .s (.int .i64 a10), .s (.int .i64 a11), .s (.int .i64 a12), .s (.int .i64 a13), .s (.int .i64 a14), .s (.int .i64 a15), .s (.int .i64 a16), .s (.int .i64 a17), .s (.int .i64 a18), .s (.int .i64 a19)] => some ⟨a0, a1, a2, a3, a4, a5, a6, a7, a8, a9, a10, a11, a12, a13, a14, a15, a16, a17, a18, a19⟩
  | _ => none
theorem cfOf_some {l : List V} {c : Cf} (h : cfOf l = some c) : l = cellsOf (confV c) := by
  unfold cfOf at h
  split at h
  · simp only [Option.some.injEq] at h; subst h; rfl
  · cases h
noncomputable def rb1 : Code := loopAt Try.prog 11 0
noncomputable def rb2 : Code := loopAt Try.prog 11 1
abbrev D1 := Cf × Int × Int
abbrev D2 := Cf × Int × Int × Int
def vs1 (d : D1) : List V := [.ff, .ptr 0 0, intV d.2.1, intV d.2.2]
def bs1 (d : D1) : List Blk := [.cells 23 (cellsOf (confV d.1))]
def vs2 (d : D2) : List V := [.ff, .ptr 0 0, intV d.2.2.1, intV d.2.2.2, intV d.2.1]
def bs2 (d : D2) : List Blk := [.cells 23 (cellsOf (confV d.1))]
def S1 (d : D1) : St := mkSt [4, 5, 6, 7] [0] 1000 84 (vs1 d) (bs1 d)
def S2 (d : D2) : St := mkSt [4, 5, 6, 7, 9] [0] 2000 84 (vs2 d) (bs2 d)
def step1 (d : D1) : T (Eng.Way D1) :=
  .ite none (bif decide (d.2.1 < 100) then decide (d.2.2 < 60) else false) (.ite none true (.ite none (bif decide (limitR d.1 100 d.2.1 ≤ d.2.1) then true else decide (IntKind.wrap .i64 (IntKind.wrap .i64 (d.1.up * d.2.1) + 1000) ≤ IntKind.wrap .i64 (limitR d.1 100 d.2.1 * 1000)))
    (.ret (.out .ret (S1 d))) (.ret (.next (d.1, limitR d.1 100 d.2.1, IntKind.wrap .i64 (d.2.2 + 1))))) .fail) (.ret (.out (.exit 0) (S1 d)))
def step2 (d : D2) : T (Eng.Way D2) :=
  .ite none (bif decide (0 < d.2.2.1) then decide (d.2.2.2 < 60) else false) (.ite none true (.ite none (bif decide (d.2.2.1 ≤ limitR d.1 0 d.2.2.1) then true else decide (IntKind.wrap .i64 (IntKind.wrap .i64 (limitR d.1 0 d.2.2.1 + 1) * d.1.down) ≤ IntKind.wrap .i64 (1000 * d.2.2.1)))
    (.ret (.out .ret (S2 d))) (.ret (.next (d.1, d.2.1, limitR d.1 0 d.2.2.1, IntKind.wrap .i64 (d.2.2.2 + 1))))) .fail) (.ret (.out (.exit 2) (S2 d)))
theorem fam1 : FamOk QL noLoops rb1 [4, 5, 6, 7] [0] 1000 S1 step1 := FamOk.of_tree fun ⟨c, n, k⟩ => by kernel_rfl
theorem fam2 : FamOk QL noLoops rb2 [4, 5, 6, 7, 9] [0] 2000 S2 step2 := FamOk.of_tree fun ⟨c, u, n, k⟩ => by kernel_rfl
def dec1 : List V → List Blk → Option D1
  | [.ff, .ptr 0 0, .s (.int .i64 n), .s (.int .i64 k)], [.cells t l] => if t = 23 then (cfOf l).map fun c => (c, n, k) else none
  | _, _ => none
def dec2 : List V → List Blk → Option D2
  | [.ff, .ptr 0 0, .s (.int .i64 n), .s (.int .i64 k), .s (.int .i64 u)], [.cells t l] => if t = 23 then (cfOf l).map fun c => (c, u, n, k) else none
  | _, _ => none
theorem dec1_ok {l : List V} {b : List Blk} {d : D1} (h : dec1 l b = some d) : l = vs1 d ∧ b = bs1 d := by
  unfold dec1 at h
  split at h
  · split at h
    · rename_i ht
      obtain ⟨c, hc, rfl⟩ := Option.map_eq_some_iff.1 h
      subst ht
      exact ⟨rfl, by rw [cfOf_some hc]; rfl⟩
    · cases h
  · cases h
theorem dec2_ok {l : List V} {b : List Blk} {d : D2} (h : dec2 l b = some d) : l = vs2 d ∧ b = bs2 d := by
  unfold dec2 at h
  split at h
  · split at h
    · rename_i ht
      obtain ⟨c, hc, rfl⟩ := Option.map_eq_some_iff.1 h
      subst ht
      exact ⟨rfl, by rw [cfOf_some hc]; rfl⟩
    · cases h
  · cases h
def go1 (c : Cf) : Nat → Int → Int → Int × Int
  | 0, n, k => (n, k)
  | f + 1, n, k => if n < 100 ∧ k < 60 then go1 c f (limitR c 100 n) (k + 1) else (n, k)
def go2 (c : Cf) : Nat → Int → Int → Int × Int
  | 0, n, k => (n, k)
  | f + 1, n, k => if 0 < n ∧ k < 60 then go2 c f (limitR c 0 n) (k + 1) else (n, k)
def ok1 (c : Cf) : Bool := mayB c && decide (1100 ≤ c.up) && decide (1100 ≤ c.down)
/-- one round up -/
theorem up_round {c : Cf} (h : ok1 c = true) {n : Int} (h1 : 1 ≤ n) (h2 : n < 100) : n < limitR c 100 n ∧ limitR c 100 n ≤ 100 ∧ limitR c 100 n * 1000 < c.up * n + 1000 ∧ (limitR c 100 n = 100 ∨ 11 * n ≤ 10 * limitR c 100 n) := by
  simp only [ok1, Bool.and_eq_true, decide_eq_true_eq] at h
  have hM := may_of h.1.1
  obtain ⟨r1, r2, r3, r4⟩ := rate_between hM (r := n) (by omega) (by omega)
  have e0 : clampI n 1 1000000 = n := by unfold clampI; rw [if_neg (by omega), if_neg (by omega)]
  have em : mostR c n = capM (upI (c.up * n) 1000) := by unfold mostR; rw [if_pos h.1.1, e0]
  have el : limitR c 100 n = midR (leastR c n) 100 (mostR c n) := by unfold limitR; rw [if_pos h.1.1]
  obtain ⟨u1, u2⟩ := up_spec (c.up * n) (show (0 : Int) < 1000 by decide)
  have h4 : 1100 * n ≤ c.up * n := Int.mul_le_mul_of_nonneg_right h.1.2 (by omega)
  have em2 : mostR c n ≤ upI (c.up * n) 1000 ∧ (mostR c n = 1000000 ∨ mostR c n = upI (c.up * n) 1000) := by rw [em]; unfold capM; split <;> omega
  rw [el]
  generalize mostR c n = hi at *
  generalize leastR c n = lo at *
  have e : midR lo 100 hi = if hi < 100 then hi else 100 := by unfold midR; rw [if_neg (show ¬ lo > 100 by omega)]
  rw [e]
  split <;> omega
theorem down_round {c : Cf} (h : ok1 c = true) {n : Int} (h1 : 1 ≤ n) (h2 : n ≤ 100) : limitR c 0 n < n ∧ 0 ≤ limitR c 0 n ∧ 1000 * n < (limitR c 0 n + 1) * c.down ∧ 11 * limitR c 0 n ≤ 10 * n := by
  simp only [ok1, Bool.and_eq_true, decide_eq_true_eq] at h
  have hM := may_of h.1.1
  obtain ⟨r1, r2, r3, r4⟩ := rate_between hM (r := n) (by omega) (by omega)
  have e0 : clampI n 0 1000000 = n := by unfold clampI; rw [if_neg (by omega), if_neg (by omega)]
  have em : leastR c n = 1000 * n / c.down := by unfold leastR; rw [if_pos h.1.1, e0]
  have el : limitR c 0 n = leastR c n := by
    unfold limitR; rw [if_pos h.1.1]; unfold midR; repeat' split
    all_goals omega
  have d1 := Int.lt_ediv_add_one_mul_self (1000 * n) (show 0 < c.down by omega)
  have d2 := Int.ediv_mul_le (1000 * n) (show c.down ≠ 0 by omega)
  rw [el]
  rw [em] at r1 r3 r4 ⊢
  clear em el
  generalize 1000 * n / c.down = q at *
  have d3 : q * 1100 ≤ q * c.down := Int.mul_le_mul_of_nonneg_left h.2 r4
  omega
def low : Nat → Int
  | 0 => 1
  | k + 1 => min 100 ((11 * low k + 9) / 10)
def high : Nat → Int
  | 0 => 100
  | k + 1 => 10 * high k / 11
theorem go1_end {c : Cf} (h : ok1 c = true) : ∀ (f : Nat) (n : Int) (k : Nat), low k ≤ n → 1 ≤ n → n ≤ 100 → k ≤ 60 → 60 - k < f → (go1 c f n k).1 = 100
  | 0, n, k, _, _, _, _, hf => by omega
  | f + 1, n, k, hl, h1, h2, hk, hf => by
    unfold go1
    split
    · rename_i hc
      obtain ⟨r1, r2, r3, r4⟩ := up_round h h1 hc.1
      have hl2 : low (k + 1) ≤ limitR c 100 n := by
        show min 100 ((11 * low k + 9) / 10) ≤ _
        rcases r4 with r | r
        · rw [r]; exact Int.min_le_left _ _
        · exact Int.le_trans (Int.min_le_right _ _) (by omega)
      exact go1_end h f (limitR c 100 n) (k + 1) hl2 (by omega) r2 (by omega) (by omega)
    · rename_i hc
      by_cases h3 : n < 100
      · have : k = 60 := by omega
        subst this
        have : low 60 = 100 := by decide +kernel
        omega
      · show n = 100; omega
theorem go2_end {c : Cf} (h : ok1 c = true) : ∀ (f : Nat) (n : Int) (k : Nat), n ≤ high k → 0 ≤ n → n ≤ 100 → k ≤ 60 → 60 - k < f → (go2 c f n k).1 = 0
  | 0, n, k, _, _, _, _, hf => by omega
  | f + 1, n, k, hl, h1, h2, hk, hf => by
    unfold go2
    split
    · rename_i hc
      obtain ⟨r1, r2, r3, r4⟩ := down_round h (by omega) h2
      have hl2 : limitR c 0 n ≤ high (k + 1) := by
        show _ ≤ 10 * high k / 11
        omega
      exact go2_end h f (limitR c 0 n) (k + 1) hl2 r2 (by omega) (by omega) (by omega)
    · rename_i hc
      by_cases h3 : 0 < n
      · have : k = 60 := by omega
        subst this
        have : high 60 = 0 := by decide +kernel
        omega
      · show n = 0; omega
theorem ite_eval {α : Type} {i : Option Nat} {c : Bool} {x y : T α} : (T.ite i c x y).eval = bif c then x.eval else y.eval := rfl
theorem up_le {c : Cf} (h : ok1 c = true) : c.up ≤ 1000000 ∧ 1100 ≤ c.up ∧ c.down ≤ 1000000 ∧ 1100 ≤ c.down := by
  simp only [ok1, Bool.and_eq_true, decide_eq_true_eq] at h
  have hM := may_of h.1.1
  exact ⟨hM.up.2, h.1.2, hM.down.2, h.2⟩
theorem iter1 {c : Cf} (h : ok1 c = true) : ∀ (f : Nat) (n : Int) (k : Int), 1 ≤ n → n ≤ 100 → 0 ≤ k → k ≤ 60 → 60 - k < f → (iter step1 f (c, n, k)).eval = some (.exit 0, S1 (c, (go1 c f n k).1, (go1 c f n k).2))
  | 0, n, k, _, _, _, _, hf => by omega
  | f + 1, n, k, h1, h2, h3, h4, hf => by
    unfold iter go1
    rw [T.eval_bind]
    have hu := up_le h
    by_cases hc : n < 100 ∧ k < 60
    · obtain ⟨r1, r2, r3, r4⟩ := up_round h h1 hc.1
      have m1 : c.up * n ≤ 1000000 * 100 := Int.mul_le_mul hu.1 h2 (by omega) (by omega)
      have m2 : 0 ≤ c.up * n := Int.mul_nonneg (by omega) (by omega)
      have e : (step1 (c, n, k)).eval = some (.next (c, limitR c 100 n, k + 1)) := by
        unfold step1
        rw [ite_eval, decide_eq_true hc.1, decide_eq_true hc.2]
        show (bif (bif decide (limitR c 100 n ≤ n) then true else _) then _ else _) = _
        rw [decide_eq_false (by omega), wrap64_in (n := c.up * n) (by omega) (by omega), wrap64_in (n := c.up * n + 1000) (by omega) (by omega), wrap64_in (n := limitR c 100 n * 1000) (by omega) (by omega), decide_eq_false (by omega), wrap64_in (n := k + 1) (by omega) (by omega)]
        rfl
      rw [e, if_pos hc]
      exact iter1 h f (limitR c 100 n) (k + 1) (by omega) r2 (by omega) (by omega) (by omega)
    · have e : (step1 (c, n, k)).eval = some (.out (.exit 0) (S1 (c, n, k))) := by
        unfold step1
        rw [ite_eval]
        have : (bif decide (n < 100) then decide (k < 60) else false) = false := by
          rw [bif_and, Bool.and_eq_false_iff, decide_eq_false_iff_not, decide_eq_false_iff_not]; omega
        show (bif (bif decide (n < 100) then decide (k < 60) else false) then _ else _) = _
        rw [this]; rfl
      rw [e, if_neg hc]
      rfl
theorem iter2 {c : Cf} (h : ok1 c = true) (u : Int) : ∀ (f : Nat) (n : Int) (k : Int), 0 ≤ n → n ≤ 100 → 0 ≤ k → k ≤ 60 → 60 - k < f → (iter step2 f (c, u, n, k)).eval = some (.exit 2, S2 (c, u, (go2 c f n k).1, (go2 c f n k).2))
  | 0, n, k, _, _, _, _, hf => by omega
  | f + 1, n, k, h1, h2, h3, h4, hf => by
    unfold iter go2
    rw [T.eval_bind]
    have hu := up_le h
    by_cases hc : 0 < n ∧ k < 60
    · obtain ⟨r1, r2, r3, r4⟩ := down_round h (by omega) h2
      have m1 : (limitR c 0 n + 1) * c.down ≤ 101 * 1000000 := Int.mul_le_mul (by omega) hu.2.2.1 (by omega) (by omega)
      have e : (step2 (c, u, n, k)).eval = some (.next (c, u, limitR c 0 n, k + 1)) := by
        unfold step2
        rw [ite_eval, decide_eq_true hc.1, decide_eq_true hc.2]
        show (bif (bif decide (n ≤ limitR c 0 n) then true else _) then _ else _) = _
        rw [decide_eq_false (by omega), wrap64_in (n := limitR c 0 n + 1) (by omega) (by omega), wrap64_in (n := (limitR c 0 n + 1) * c.down) (by omega) (by omega), wrap64_in (n := 1000 * n) (by omega) (by omega), decide_eq_false (by omega), wrap64_in (n := k + 1) (by omega) (by omega)]
        rfl
      rw [e, if_pos hc]
      exact iter2 h u f (limitR c 0 n) (k + 1) r2 (by omega) (by omega) (by omega) (by omega)
    · have e : (step2 (c, u, n, k)).eval = some (.out (.exit 2) (S2 (c, u, n, k))) := by
        unfold step2
        rw [ite_eval]
        have : (bif decide (0 < n) then decide (k < 60) else false) = false := by
          rw [bif_and, Bool.and_eq_false_iff, decide_eq_false_iff_not, decide_eq_false_iff_not]; omega
        show (bif (bif decide (0 < n) then decide (k < 60) else false) then _ else _) = _
        rw [this]; rfl
      rw [e, if_neg hc]
      rfl
def res1 (d : D1) : T (Ex × St) := .ite none (ok1 d.1 && (d.2.1 == 1) && (d.2.2 == 0)) (.ret (.exit 0, S1 (d.1, (go1 d.1 61 1 0).1, (go1 d.1 61 1 0).2))) .fail
def res2 (d : D2) : T (Ex × St) := .ite none (ok1 d.1 && (d.2.2.1 == 100) && (d.2.2.2 == 0)) (.ret (.exit 2, S2 (d.1, d.2.1, (go2 d.1 61 100 0).1, (go2 d.1 61 100 0).2))) .fail
theorem guard_eval' {α : Type} {c : Bool} {x : T α} {v : α} (h : (T.ite none c x .fail).eval = some v) : c = true ∧ x.eval = some v := by
  cases c
  · cases h
  · exact ⟨rfl, h⟩
theorem lp1_ok : LoopOk QL rb1 (famV [4, 5, 6, 7] [0] 1000 84 dec1 res1) :=
  famV_ok QL_ok mixed (noLoops_ok _) fam1 (fun _ _ _ h => dec1_ok h) fun ⟨c, n, k⟩ r hr => by
    obtain ⟨hc, hr⟩ := guard_eval' hr
    simp only [Bool.and_eq_true, beq_iff_eq] at hc
    obtain ⟨⟨h0, rfl⟩, rfl⟩ := hc
    refine ⟨61, ?_⟩
    rw [iter1 h0 61 1 0 (by decide) (by decide) (by decide) (by decide) (by decide)]
    exact hr
theorem lp2_ok : LoopOk QL rb2 (famV [4, 5, 6, 7, 9] [0] 2000 84 dec2 res2) :=
  famV_ok QL_ok mixed (noLoops_ok _) fam2 (fun _ _ _ h => dec2_ok h) fun ⟨c, u, n, k⟩ r hr => by
    obtain ⟨hc, hr⟩ := guard_eval' hr
    simp only [Bool.and_eq_true, beq_iff_eq] at hc
    obtain ⟨⟨h0, rfl⟩, rfl⟩ := hc
    refine ⟨61, ?_⟩
    rw [iter2 h0 u 61 100 0 (by decide) (by decide) (by decide) (by decide) (by decide)]
    exact hr
def rlist : List (Nat × LSpec) := [(4, famV [4, 5, 6, 7] [0] 1000 84 dec1 res1), (12, famV [4, 5, 6, 7, 9] [0] 2000 84 dec2 res2)]
theorem rfind1 : findL rlist 4 = some (famV [4, 5, 6, 7] [0] 1000 84 dec1 res1) := rfl
theorem rfind2 : findL rlist 12 = some (famV [4, 5, 6, 7, 9] [0] 2000 84 dec2 res2) := rfl
theorem reg1 : firstReg rb1 = some 4 := by kernel_rfl
theorem reg2 : firstReg rb2 = some 12 := by kernel_rfl
theorem rlps_ok : ∀ a ∈ loopsIn (codeOf Try.prog 11), ∀ sp, byReg rlist a = some sp → LoopOk QL a sp := by
  have e : loopsIn (codeOf Try.prog 11) = [rb1, rb2] := by kernel_rfl
  rw [e]
  intro a ha
  rcases List.mem_cons.1 ha with h | ha
  · rw [h]; exact byReg_mem reg1 rfind1 lp1_ok
  · rcases List.mem_cons.1 ha with h | ha
    · rw [h]; exact byReg_mem reg2 rfind2 lp2_ok
    · cases ha
end Go.Proofs.Ytdkebjdhpioehaa.Conf
