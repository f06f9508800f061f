/- Layer 7: the loops of BreakerShrinks. -/
import Derived.Test.YtacdadifjgppbaaBrkU
namespace Go.Proofs.Ytacdadifjgppbaa.Brk
open Go.Eng Go.RowKit Go.Flt Lod
set_option linter.unusedVariables false
set_option linter.unusedSimpArgs false
def decR : List V → List Blk → Option (PR × AR)
  | [.s (.int .i64 n), .s (.int .i64 m), .ptr 0 0, .s (.int .i64 i)], [.cells t [.s (.int .i64 L), .s (.int .i64 D), .s (.cx .f64 x y)]] => if t = 76 then some (⟨n, m, L, D⟩, ⟨x, y, i⟩) else none
  | _, _ => none
theorem decR_ok (l : List V) (b : List Blk) (d : PR × AR) (h : decR l b = some d) : l = vsR d.1 d.2 ∧ b = bsR d.1 d.2 := by
  unfold decR at h
  split at h
  · split at h
    · rename_i ht
      subst ht
      cases h
      exact ⟨rfl, rfl⟩
    · cases h
  · cases h
def decU : List V → List Blk → Option (PU × AU)
  | [.s (.int .i64 n), .s (.int .i64 m), .ptr 0 0, .s (.int .i64 k), .s (.int .i64 g), .s (.int .i64 i)], [.cells t [.s (.int .i64 L), .s (.int .i64 D), .s (.cx .f64 x y)]] => if t = 76 then some (⟨n, m, k, L, D⟩, ⟨x, y, g, i⟩) else none
  | _, _ => none
theorem decU_ok (l : List V) (b : List Blk) (d : PU × AU) (h : decU l b = some d) : l = vsU d.1 d.2 ∧ b = bsU d.1 d.2 := by
  unfold decU at h
  split at h
  · split at h
    · rename_i ht
      subst ht
      cases h
      exact ⟨rfl, rfl⟩
    · cases h
  · cases h
def invR (p : PR) (a : AR) : Bool := decide (p.L = p.n) && decide (p.D = 10) && decide (1 ≤ p.n) && decide (p.n ≤ 20) && decide (0 ≤ a.i) && decide (a.i ≤ p.n + 10) && isW a.x && isW a.y && decide (valW a.x = bIn p.n a.i) && decide (valW a.y = wIn p.n a.i)
def nxtR (p : PR) (a : AR) : Option AR := if a.i < p.n + 10 then some (if a.i < p.n then ⟨fW (valW a.x + 1), fW (valW a.y), a.i + 1⟩ else ⟨fW (valW a.x), fW (valW a.y + 1), a.i + 1⟩) else none
noncomputable def outR (p : PR) (a : AR) : T (Ex × St) := .ret (.exit 0, FR p a)
theorem stR (p : PR) (a b : AR) (h : invR p a = true) (e : nxtR p a = some b) : invR p b = true ∧ (p.n + 10 - b.i).toNat < (p.n + 10 - a.i).toNat := by
  obtain ⟨x, y, i⟩ := a
  unfold nxtR at e
  unfold invR at h
  dsimp only at e h
  split at e
  · rename_i hc
    obtain rfl := Option.some.inj e
    simp only [Bool.and_eq_true, decide_eq_true_eq] at h
    obtain ⟨⟨⟨⟨⟨⟨⟨⟨⟨h1, h2⟩, h3⟩, h4⟩, h7⟩, h8⟩, h9⟩, h10⟩, h11⟩, h12⟩ := h
    unfold bIn at h11
    unfold wIn at h12
    split
    · rename_i q
      rw [if_pos q] at h11 h12
      simp only [invR, Bool.and_eq_true, decide_eq_true_eq, isW_fW, valW_fW, h11, h12]
      rw [wi_in (n := i + 1) (by omega) (by omega), wi_in (n := 0) (by omega) (by omega)]
      refine ⟨⟨⟨⟨⟨⟨⟨⟨⟨⟨h1, h2⟩, h3⟩, h4⟩, by omega⟩, by omega⟩, trivial⟩, trivial⟩, ?_⟩, ?_⟩, by omega⟩
      · unfold bIn; split <;> omega
      · unfold wIn; split <;> omega
    · rename_i q
      rw [if_neg q] at h11 h12
      simp only [invR, Bool.and_eq_true, decide_eq_true_eq, isW_fW, valW_fW, h11, h12]
      rw [wi_in (n := p.n) (by omega) (by omega), wi_in (n := i - p.n + 1) (by omega) (by omega)]
      refine ⟨⟨⟨⟨⟨⟨⟨⟨⟨⟨h1, h2⟩, h3⟩, h4⟩, by omega⟩, by omega⟩, trivial⟩, trivial⟩, ?_⟩, ?_⟩, by omega⟩
      · unfold bIn; split <;> omega
      · unfold wIn; split <;> omega
  · cases e
theorem lpR_ok : LoopOk B6 br1 (famWN [5,6,7,8] S0 1000 1000 112 decR invR nxtR outR) := by
  refine famWN_ok (vs := vsR) (bs := bsR) B6_ok mixed (noLoops_ok _) decR_ok (fun p a => (p.n + 10 - a.i).toNat) stR fun ⟨n, m, L, D⟩ ⟨x, y, i⟩ h => ?_
  have e : T.anon (roundN B6 noLoops br1 [5,6,7,8] S0 1000 1000 (mkSt [5,6,7,8] (keysR S0) 1000 112 (vsR ⟨n, m, L, D⟩ ⟨x, y, i⟩) (bsR ⟨n, m, L, D⟩ ⟨x, y, i⟩))) = rtR n m L D x y i := by kernel_rfl
  rw [← T.eval_anon (t := roundN _ _ _ _ _ _ _ _), e]
  clear e
  simp only [invR, Bool.and_eq_true, decide_eq_true_eq] at h
  obtain ⟨⟨⟨⟨⟨⟨⟨⟨⟨rfl, rfl⟩, h3⟩, h4⟩, h7⟩, h8⟩, h9⟩, h10⟩, h11⟩, h12⟩ := h
  simp only [nxtR, outR]
  unfold rtR
  rw [wrap64_in (n := L + 10) (by omega) (by omega)]
  by_cases hc : i < L + 10
  · rw [if_pos hc]
    refine ⟨fun b hb => ?_, fun h => by cases h⟩
    obtain rfl := Option.some.inj hb
    rw [wrap64_in (n := i + 1) (by omega) (by omega)]
    unfold bIn at h11
    unfold wIn at h12
    by_cases q : i < L
    · rw [if_pos q] at h11 h12 ⊢
      exact tev_then (decide_eq_true hc) (tev_then (okB_is h9 h10 (by omega) (by omega) (by omega) (by omega)) (tev_then (by rw [h11]; exact decide_eq_true q) rfl))
    · rw [if_neg q] at h11 h12 ⊢
      exact tev_then (decide_eq_true hc) (tev_then (okB_is h9 h10 (by omega) (by omega) (by omega) (by omega)) (tev_else (by rw [h11]; simp) (tev_then (by rw [h12]; exact decide_eq_true (by omega)) rfl)))
  · rw [if_neg hc]
    refine ⟨fun b hb => (by cases hb), fun _ r hr => ?_⟩
    obtain rfl := Option.some.inj hr
    exact ⟨by simp, tev_else (decide_eq_false hc) rfl⟩
def kk (n m : Int) : Int := if n < m then (if m - n < 10 then m - n else 10) else 0
def gm (n m : Int) : Int := if m < n then n - m else 0
def invU (p : PU) (a : AU) : Bool := decide (p.L = p.m) && decide (p.D = 10) && decide (1 ≤ p.n) && decide (p.n ≤ 20) && decide (1 ≤ p.m) && decide (p.m ≤ 20) && decide (p.k = kk p.n p.m) && decide (0 ≤ a.i) && decide (a.i ≤ gm p.n p.m) && decide (a.g = a.i) && isW a.x && isW a.y && decide (valW a.x = p.n + p.k - a.i) && decide (valW a.y = 10 - p.k)
def nxtU (p : PU) (a : AU) : Option AU := if a.i < p.n - p.m then some ⟨fW (valW a.x - 1 + adm p.m (valW a.x - 1) (valW a.y)), fW (valW a.y - adm p.m (valW a.x - 1) (valW a.y)), a.g + 1, a.i + 1⟩ else none
noncomputable def outU (p : PU) (a : AU) : T (Ex × St) := .ret (.exit 2, FU p a)
theorem admU {n m i x y : Int} (h1 : 1 ≤ m) (h3 : 0 ≤ i) (h4 : i < n - m) (hx : x = n - i) (hy : y = 10) : adm m (x - 1) y = 0 := by
  subst hx hy
  unfold adm fr
  repeat' split
  all_goals omega
theorem kk_zero {n m : Int} (h : m < n) : kk n m = 0 := by unfold kk; rw [if_neg (by omega)]
theorem gm_is {n m : Int} (h : m < n) : gm n m = n - m := by unfold gm; rw [if_pos h]
theorem stU (p : PU) (a b : AU) (h : invU p a = true) (e : nxtU p a = some b) : invU p b = true ∧ (p.n - p.m - b.i).toNat < (p.n - p.m - a.i).toNat := by
  obtain ⟨x, y, g, i⟩ := a
  unfold nxtU at e
  unfold invU at h
  dsimp only at e h
  split at e
  · rename_i hc
    obtain rfl := Option.some.inj e
    simp only [Bool.and_eq_true, decide_eq_true_eq] at h
    obtain ⟨⟨⟨⟨⟨⟨⟨⟨⟨⟨⟨⟨⟨h1, h2⟩, h3⟩, h4⟩, h5⟩, h6⟩, h7⟩, h8⟩, h9⟩, h10⟩, h11⟩, h12⟩, h13⟩, h14⟩ := h
    have hk := kk_zero (n := p.n) (m := p.m) (by omega)
    have hg := gm_is (n := p.n) (m := p.m) (by omega)
    have ha := admU (n := p.n) (m := p.m) (i := i) (x := valW x) (y := valW y) h5 h8 hc (by omega) (by omega)
    rw [h13, h14] at ha
    simp only [invU, Bool.and_eq_true, decide_eq_true_eq, isW_fW, valW_fW, ha, h13, h14]
    rw [wi_in (n := p.n + p.k - i - 1 + 0) (by omega) (by omega), wi_in (n := 10 - p.k - 0) (by omega) (by omega)]
    exact ⟨⟨⟨⟨⟨⟨⟨⟨⟨⟨⟨⟨⟨⟨h1, h2⟩, h3⟩, h4⟩, h5⟩, h6⟩, h7⟩, by omega⟩, by omega⟩, by omega⟩, trivial⟩, trivial⟩, by omega⟩, by omega⟩, by omega⟩
  · cases e
theorem lpU_ok : LoopOk B6 br2 (famWN [5,6,7,9,11,12] S0 2000 2000 112 decU invU nxtU outU) := by
  refine famWN_ok (vs := vsU) (bs := bsU) B6_ok mixed (noLoops_ok _) decU_ok (fun p a => (p.n - p.m - a.i).toNat) stU fun ⟨n, m, k, L, D⟩ ⟨x, y, g, i⟩ h => ?_
  have e : T.anon (roundN B6 noLoops br2 [5,6,7,9,11,12] S0 2000 2000 (mkSt [5,6,7,9,11,12] (keysR S0) 2000 112 (vsU ⟨n, m, k, L, D⟩ ⟨x, y, g, i⟩) (bsU ⟨n, m, k, L, D⟩ ⟨x, y, g, i⟩))) = rtU n m k L D x y g i := by kernel_rfl
  rw [← T.eval_anon (t := roundN _ _ _ _ _ _ _ _), e]
  clear e
  simp only [invU, Bool.and_eq_true, decide_eq_true_eq] at h
  obtain ⟨⟨⟨⟨⟨⟨⟨⟨⟨⟨⟨⟨⟨rfl, rfl⟩, h3⟩, h4⟩, h5⟩, h6⟩, h7⟩, h8⟩, h9⟩, rfl⟩, h11⟩, h12⟩, h13⟩, h14⟩ := h
  simp only [nxtU, outU]
  unfold rtU
  rw [wrap64_in (n := n - L) (by omega) (by omega)]
  by_cases hc : g < n - L
  · rw [if_pos hc]
    refine ⟨fun b hb => ?_, fun h => by cases h⟩
    obtain rfl := Option.some.inj hb
    have hk := kk_zero (n := n) (m := L) (by omega)
    have ha := admU (n := n) (m := L) (i := g) (x := valW x) (y := valW y) h5 h8 hc (by omega) (by omega)
    rw [wrap64_in (n := g + 1) (by omega) (by omega)]
    exact tev_then (decide_eq_true hc) (tev_then (okB_is h11 h12 (by omega) (by omega) (by omega) (by omega)) (tev_else (by rw [h13, beq_eq_false_iff_ne]; omega) (tev_else (by rw [ha]; rfl) rfl)))
  · rw [if_neg hc]
    refine ⟨fun b hb => (by cases hb), fun _ r hr => ?_⟩
    obtain rfl := Option.some.inj hr
    exact ⟨by simp, tev_else (decide_eq_false hc) rfl⟩
noncomputable def rlist : List (Nat × LSpec) := [(6, famWN [5,6,7,8] S0 1000 1000 112 decR invR nxtR outR), (14, famWN [5,6,7,9,11,12] S0 2000 2000 112 decU invU nxtU outU)]
theorem rfind : findL rlist 6 = some (famWN [5,6,7,8] S0 1000 1000 112 decR invR nxtR outR) := rfl
theorem ufind : findL rlist 14 = some (famWN [5,6,7,9,11,12] S0 2000 2000 112 decU invU nxtU outU) := rfl
theorem rreg : firstReg br1 = some 6 := by kernel_rfl
theorem ureg : firstReg br2 = some 14 := by kernel_rfl
theorem rlps_ok : ∀ a ∈ loopsIn (codeOf Try.prog 10), ∀ sp, byReg rlist a = some sp → LoopOk B6 a sp := by
  have e : loopsIn (codeOf Try.prog 10) = [br1, br2] := by kernel_rfl
  rw [e]
  intro a ha
  rcases List.mem_cons.1 ha with h | ha
  · rw [h]; exact byReg_mem rreg rfind lpR_ok
  · rcases List.mem_cons.1 ha with h | ha
    · rw [h]; exact byReg_mem ureg ufind lpU_ok
    · cases ha
end Go.Proofs.Ytacdadifjgppbaa.Brk
