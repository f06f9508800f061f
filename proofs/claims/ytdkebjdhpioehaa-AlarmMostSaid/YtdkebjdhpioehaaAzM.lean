/- Layer 14: the greatest that was wanted in a panic, over any numbers. -/
import Derived.Test.YtdkebjdhpioehaaAzT
namespace Go.Proofs.Ytdkebjdhpioehaa.Conf
open Go.Eng Go.RowKit Mil
set_option linter.unusedVariables false
set_option linter.unusedSimpArgs false
def decM : List V → List Blk → Option (PM × AM)
  | [.sub 0 1 0 k, .s (.int .i64 n), .ff, .ptr 1 0, .ptr 41 0, .s (.int .i64 mo), .s (.int .i64 i)], [.lst false t [.int .i64] l, .cells t1 l1, .cells t2 [.s (.int .i64 s), .s (.int .i64 m)]] =>
    if t = 3 ∧ t1 = 23 ∧ t2 = 42 then (cfOf l1).bind fun c => if cfEq c dflt then some (⟨l, k, n⟩, ⟨s, m, mo, i⟩) else none else none
  | _, _ => none
theorem decM_ok (l : List V) (b : List Blk) (d : PM × AM) (h : decM l b = some d) : l = vsM d.1 d.2 ∧ b = bsM d.1 d.2 := by
  unfold decM at h
  split at h
  · split at h
    · rename_i ht
      obtain ⟨c, hc, h⟩ := Option.bind_eq_some_iff.1 h
      split at h
      · rename_i he
        obtain rfl := cfEq_eq he
        cases h
        obtain ⟨rfl, rfl, rfl⟩ := ht
        exact ⟨rfl, by rw [cfOf_some hc]; rfl⟩
      · cases h
    · cases h
  · cases h
def invM (p : PM) (a : AM) : Bool := decide (p.k = p.l.length) && (a.s == 10) && (a.m == a.mo) && decide (0 ≤ a.mo) && decide (0 ≤ a.i)
def mx (a b : Int) : Int := if a > b then a else b
def wM (p : PM) (i : Int) : Int := IntKind.wrap .i64 (Int.tmod (IntKind.wrap .u64 (gI p.l i)) 1000)
def nxtM (p : PM) (a : AM) : Option AM := if a.i < p.k ∧ a.i < 20 then some ⟨10, mx (wM p a.i) a.mo, mx (wM p a.i) a.mo, a.i + 1⟩ else none
noncomputable def outM (p : PM) (a : AM) : T (Ex × St) := .ret (.exit 0, FM p a)
theorem stM (p : PM) (a b : AM) (h : invM p a = true) (e : nxtM p a = some b) : invM p b = true ∧ (20 - b.i).toNat < (20 - a.i).toNat := by
  obtain ⟨s, m, mo, i⟩ := a
  unfold nxtM at e
  split at e
  · rename_i hc
    obtain rfl := Option.some.inj e
    simp only [invM, Bool.and_eq_true, decide_eq_true_eq, beq_iff_eq] at h hc ⊢
    have : 0 ≤ mx (wM p i) mo := by unfold mx; split <;> omega
    exact ⟨⟨⟨⟨⟨h.1.1.1.1, trivial⟩, trivial⟩, this⟩, by show 0 ≤ i + 1; omega⟩, by show (20 - (i + 1)).toNat < (20 - i).toNat; omega⟩
  · cases e
theorem lpM_ok : LoopOk AL am1 (famW [0,1,4,5,6,7,8] [0,1,41] 1000 94 decM invM nxtM outM) := by
  refine famW_ok (vs := vsM) (bs := bsM) AL_ok mixed (noLoops_ok _) decM_ok (fun p a => (20 - a.i).toNat) stM fun ⟨l, k, n⟩ ⟨s, m, mo, i⟩ h => ?_
  have e : T.anon (roundT AL noLoops am1 [0,1,4,5,6,7,8] [0,1,41] 1000 (mkSt [0,1,4,5,6,7,8] [0,1,41] 1000 94 (vsM ⟨l, k, n⟩ ⟨s, m, mo, i⟩) (bsM ⟨l, k, n⟩ ⟨s, m, mo, i⟩))) = rtM l k n s m mo i := by kernel_rfl
  rw [← T.eval_anon (t := roundT _ _ _ _ _ _ _), e]
  clear e
  simp only [invM, Bool.and_eq_true, decide_eq_true_eq, beq_iff_eq] at h
  obtain ⟨⟨⟨⟨rfl, rfl⟩, rfl⟩, h0⟩, h1⟩ := h
  simp only [nxtM, outM, wM]
  have hw := modU_range (gI l i) (m := 1000) (by decide)
  have ew := modU (n := gI l i) (m := 1000) (by decide) (by decide)
  unfold rtM
  simp only [ew]
  generalize (gI l i % 18446744073709551616) % 1000 = w at *
  have hk : keepA { since := 10, most := m } w = ⟨10, mx w m⟩ := by unfold mx; unfold keepA; rw [if_neg (show ¬ (10 : Int) < 0 by decide)]
  have hv : keepW { since := 10, most := m } w = mx w m := by unfold mx; unfold keepW; rw [if_neg (show ¬ (10 : Int) < 0 by decide)]
  by_cases hc : i < l.length ∧ i < 20
  · rw [if_pos hc, hk, hv]
    have hM : 0 ≤ mx w m := by unfold mx; split <;> omega
    have hx : (if w > m then w else m) = mx w m := rfl
    rw [hx]
    clear hk hv hx
    generalize mx w m = M at *
    refine ⟨fun b hb => ?_, fun h => by cases h⟩
    obtain rfl := Option.some.inj hb
    (repeat first | (refine tev_then (by (first | with_reducible rfl | assumption | (simp only [cond_and, cond_or, Bool.and_eq_true, Bool.or_eq_true, Bool.and_eq_false_iff, Bool.or_eq_false_iff, decide_eq_true_eq, decide_eq_false_iff_not, beq_iff_eq, bne_iff_ne, beq_eq_false_iff_ne, bne_eq_false_iff_eq, Bool.not_eq_true', Bool.not_eq_false', ne_eq, Bool.true_and, Bool.and_true, Bool.false_and, Bool.and_false, Bool.true_or, Bool.or_true, Bool.not_true, Bool.not_false, Bool.cond_true, Bool.cond_false, true_and, and_true]; first | done | omega))) ?_) | (refine tev_else (by (first | with_reducible rfl | assumption | (simp only [cond_and, cond_or, Bool.and_eq_true, Bool.or_eq_true, Bool.and_eq_false_iff, Bool.or_eq_false_iff, decide_eq_true_eq, decide_eq_false_iff_not, beq_iff_eq, bne_iff_ne, beq_eq_false_iff_ne, bne_eq_false_iff_eq, Bool.not_eq_true', Bool.not_eq_false', ne_eq, Bool.true_and, Bool.and_true, Bool.false_and, Bool.and_false, Bool.true_or, Bool.or_true, Bool.not_true, Bool.not_false, Bool.cond_true, Bool.cond_false, true_and, and_true]; first | done | omega))) ?_))
    rw [wrap64_in (n := i + 1) (by omega) (by omega)]
    rfl
  · rw [if_neg hc]
    refine ⟨fun b hb => (by cases hb), fun _ r hr => ?_⟩
    obtain rfl := Option.some.inj hr
    refine ⟨by simp, ?_⟩
    refine tev_else ?_ rfl
    rw [cond_and, Bool.and_eq_false_iff, decide_eq_false_iff_not, decide_eq_false_iff_not]; omega
noncomputable def mlist : List (Nat × LSpec) := [(5, famW [0,1,4,5,6,7,8] [0,1,41] 1000 94 decM invM nxtM outM)]
theorem mfind : findL mlist 5 = some (famW [0,1,4,5,6,7,8] [0,1,41] 1000 94 decM invM nxtM outM) := rfl
theorem mreg : firstReg am1 = some 5 := by kernel_rfl
theorem mlps_ok : ∀ a ∈ loopsIn (codeOf Try.prog 15), ∀ sp, byReg mlist a = some sp → LoopOk AL a sp := by
  have e : loopsIn (codeOf Try.prog 15) = [am1] := by kernel_rfl
  rw [e]
  intro a ha
  rcases List.mem_cons.1 ha with h | ha
  · rw [h]; exact byReg_mem mreg mfind lpM_ok
  · cases ha
end Go.Proofs.Ytdkebjdhpioehaa.Conf
