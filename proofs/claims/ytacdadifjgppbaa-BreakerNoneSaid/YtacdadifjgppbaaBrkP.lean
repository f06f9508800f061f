/- Layer 7: the loop of BreakerNone. -/
import Derived.Test.YtacdadifjgppbaaBrkO
namespace Go.Proofs.Ytacdadifjgppbaa.Brk
open Go.Eng Go.RowKit Go.Flt Lod
set_option linter.unusedVariables false
set_option linter.unusedSimpArgs false
def decN : List V → List Blk → Option (PN × AN)
  | [.s (.int .i64 d), .s (.int .i64 k), .s (.int .i64 l), .ptr 0 0, .s (.int .i64 c), .s (.int .i64 i)], [.cells t [.s (.int .i64 L), .s (.int .i64 D), .s (.cx .f64 x y)]] => if t = 76 then some (⟨d, k, l, L, D⟩, ⟨x, y, c, i⟩) else none
  | _, _ => none
theorem decN_ok (l : List V) (b : List Blk) (d : PN × AN) (h : decN l b = some d) : l = vsN d.1 d.2 ∧ b = bsN d.1 d.2 := by
  unfold decN at h
  split at h
  · split at h
    · rename_i ht
      subst ht
      cases h
      exact ⟨rfl, rfl⟩
    · cases h
  · cases h
def mnI (i d : Int) : Int := if i < d then i else d
def invN (p : PN) (a : AN) : Bool := decide (p.L = 0) && decide (p.D = p.d) && decide (0 ≤ p.d) && decide (p.d ≤ 20) && decide (p.k ≤ 25) && decide (0 ≤ a.i) && decide (a.i ≤ p.k) && isW a.x && isW a.y && decide (valW a.x = 0) && decide (valW a.y = mnI a.i p.d) && decide (a.c = mnI a.i p.d)
def nxtN (p : PN) (a : AN) : Option AN := if a.i < p.k then some (if a.i < p.d then ⟨fW (valW a.x), fW (valW a.y + 1), a.c + 1, a.i + 1⟩ else ⟨a.x, a.y, a.c, a.i + 1⟩) else none
noncomputable def outN (p : PN) (a : AN) : T (Ex × St) := .ret (.exit 0, FN p a)
theorem stN (p : PN) (a b : AN) (h : invN p a = true) (e : nxtN p a = some b) : invN p b = true ∧ (p.k - b.i).toNat < (p.k - a.i).toNat := by
  obtain ⟨x, y, c, i⟩ := a
  unfold nxtN at e
  unfold invN at h
  dsimp only at e h
  split at e
  · rename_i hc
    obtain rfl := Option.some.inj e
    simp only [Bool.and_eq_true, decide_eq_true_eq] at h
    obtain ⟨⟨⟨⟨⟨⟨⟨⟨⟨⟨⟨h1, h2⟩, h3⟩, h4⟩, h5⟩, h6⟩, h7⟩, h8⟩, h9⟩, h10⟩, h11⟩, h12⟩ := h
    unfold mnI at h11 h12
    split
    · rename_i q
      rw [if_pos q] at h11 h12
      simp only [invN, Bool.and_eq_true, decide_eq_true_eq, isW_fW, valW_fW, h10, h11, h12]
      rw [wi_in (n := i + 1) (by omega) (by omega), wi_in (n := 0) (by omega) (by omega)]
      have : i + 1 = mnI (i + 1) p.d := by unfold mnI; split <;> omega
      exact ⟨⟨⟨⟨⟨⟨⟨⟨⟨⟨⟨⟨h1, h2⟩, h3⟩, h4⟩, h5⟩, by omega⟩, by omega⟩, trivial⟩, trivial⟩, rfl⟩, this⟩, this⟩, by omega⟩
    · rename_i q
      rw [if_neg q] at h11 h12
      have : p.d = mnI (i + 1) p.d := by unfold mnI; split <;> omega
      simp only [invN, Bool.and_eq_true, decide_eq_true_eq, h11, h12]
      exact ⟨⟨⟨⟨⟨⟨⟨⟨⟨⟨⟨⟨h1, h2⟩, h3⟩, h4⟩, h5⟩, by omega⟩, by omega⟩, h8⟩, h9⟩, h10⟩, this⟩, this⟩, by omega⟩
  · cases e
theorem lpN_ok : LoopOk B6 bn1 (famWN [7,8,9,10,11,12] S0 1000 1000 103 decN invN nxtN outN) := by
  refine famWN_ok (vs := vsN) (bs := bsN) B6_ok mixed (noLoops_ok _) decN_ok (fun p a => (p.k - a.i).toNat) stN fun ⟨d, k, l, L, D⟩ ⟨x, y, c, i⟩ h => ?_
  have e : T.anon (roundN B6 noLoops bn1 [7,8,9,10,11,12] S0 1000 1000 (mkSt [7,8,9,10,11,12] (keysR S0) 1000 103 (vsN ⟨d, k, l, L, D⟩ ⟨x, y, c, i⟩) (bsN ⟨d, k, l, L, D⟩ ⟨x, y, c, i⟩))) = rtN d k l L D x y c i := by kernel_rfl
  rw [← T.eval_anon (t := roundN _ _ _ _ _ _ _ _), e]
  clear e
  simp only [invN, Bool.and_eq_true, decide_eq_true_eq] at h
  obtain ⟨⟨⟨⟨⟨⟨⟨⟨⟨⟨⟨rfl, rfl⟩, h3⟩, h4⟩, h5⟩, h6⟩, h7⟩, h8⟩, h9⟩, h10⟩, h11⟩, h12⟩ := h
  simp only [nxtN, outN]
  unfold rtN
  by_cases hc : i < k
  · rw [if_pos hc]
    refine ⟨fun b hb => ?_, fun h => by cases h⟩
    obtain rfl := Option.some.inj hb
    have hm : 0 ≤ mnI i D ∧ mnI i D ≤ 20 := by unfold mnI; split <;> omega
    rw [wrap64_in (n := i + 1) (by omega) (by omega), wrap64_in (n := c + 1) (by omega) (by omega)]
    refine tev_then (decide_eq_true hc) (tev_then (okB_is h8 h9 (by omega) (by omega) (by omega) (by omega)) (tev_else (by rw [h10]; rfl) ?_))
    unfold mnI at h11
    by_cases q : i < D
    · rw [if_pos q] at h11 ⊢
      exact tev_then (by rw [h11]; exact decide_eq_true q) (tev_else (by rw [decide_eq_true q]; rfl) (tev_then rfl rfl))
    · rw [if_neg q] at h11 ⊢
      exact tev_else (by rw [h11]; simp) (tev_else (by rw [decide_eq_false q]; rfl) (tev_else rfl rfl))
  · rw [if_neg hc]
    refine ⟨fun b hb => (by cases hb), fun _ r hr => ?_⟩
    obtain rfl := Option.some.inj hr
    exact ⟨by simp, tev_else (decide_eq_false hc) rfl⟩
noncomputable def nlist : List (Nat × LSpec) := [(7, famWN [7,8,9,10,11,12] S0 1000 1000 103 decN invN nxtN outN)]
theorem nfind : findL nlist 7 = some (famWN [7,8,9,10,11,12] S0 1000 1000 103 decN invN nxtN outN) := rfl
theorem nreg : firstReg bn1 = some 7 := by kernel_rfl
theorem nlps_ok : ∀ a ∈ loopsIn (codeOf Try.prog 6), ∀ sp, byReg nlist a = some sp → LoopOk B6 a sp := by
  have e : loopsIn (codeOf Try.prog 6) = [bn1] := by kernel_rfl
  rw [e]
  intro a ha
  rcases List.mem_cons.1 ha with h | ha
  · rw [h]; exact byReg_mem nreg nfind lpN_ok
  · cases ha
end Go.Proofs.Ytacdadifjgppbaa.Brk
