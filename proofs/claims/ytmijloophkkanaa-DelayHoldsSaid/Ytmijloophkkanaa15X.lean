/- Layer 15: DelayHolds: its rounds. -/
import Derived.Test.Ytmijloophkkanaa15V
import Derived.Test.Ytmijloophkkanaa15N
namespace Go.Proofs.Ytmijloophkkanaa.Del
open Go.Eng Go.RowKit
set_option linter.unusedVariables false
set_option linter.unusedSimpArgs false
def q0O (i s : Int) : Int := if IntKind.wrap .i64 (IntKind.wrap .i64 (i - s) + 1) > 0 then IntKind.wrap .i64 (IntKind.wrap .i64 (i - s) + 1) else 0
noncomputable def pathO (g : List Int) (k : Nat) (s s' a : Int) (L : List Stp) (j : Nat) (W : List Int) (n : Nat) (i : Int) : Option (List (Bool × Bool) × (Ex × St)) :=
  let w := wS g i
  let W' := W.take n ++ [w]
  let n' := n + [w].length
  let x := gI W' i
  let L' := L.take (dropN L x j) ++ [(i, x)]
  let j' := dropN L x j + 1
  let p2 : P2 := ⟨g, k, s, s', i, L', j', W', n', i⟩
  some ([(bif decide (i < (k : Int)) then decide (i < 150) else false, true), (decide (0 ≤ i) && (decide (i < (k : Int)) && decide (0 + Int.toNat i < g.length)), true), (decide (0 + Int.toNat i < g.length), true), ((1000 : Int) == 0, false),
    (true && (decide (n ≤ W.length) && decide (n + [w].length ≤ 1000000)), true), (decide (0 ≤ i) && (decide (i < (n' : Int)) && decide (0 + Int.toNat i < W'.length)), true), (decide (0 + Int.toNat i < W'.length), true),
    (refB a i x, false), (okP 0 j L i x, true), ((0 : Int) != 0, false), (decide (0 ≤ i) && (decide (i < (n' : Int)) && decide (0 + Int.toNat i < W'.length)), true), (decide (0 + Int.toNat i < W'.length), true),
    (inv2 p2 ⟨x, q0O i s⟩, true), (invW (pW s' i (mx0 i) j' L') 0, true), (mostN s' i (mx0 i) j' L' != (endW (nxt2 p2) ⟨x, q0O i s⟩).m, false)],
    (.normal, FO ⟨g, k, s, s'⟩ ⟨i, L', j', W', n', IntKind.wrap .i64 (i + 1)⟩))
theorem pathO_run (g : List Int) (k : Nat) (s s' a : Int) (L : List Stp) (j : Nat) (W : List Int) (n : Nat) (i : Int) :
    T.path [true, true, true, false, true, true, true, false, true, false, true, true, true, true, false] (roundN D8 (byReg list2) dh1 [1,5,6,7,8] SO 1000 1002 (mkSt [1,5,6,7,8] (keysR SO) 1002 86 (vsO ⟨g, k, s, s'⟩ ⟨a, L, j, W, n, i⟩) (bsO ⟨g, k, s, s'⟩ ⟨a, L, j, W, n, i⟩))) = pathO g k s s' a L j W n i := by kernel_rfl
theorem exitO_run (g : List Int) (k : Nat) (s s' a : Int) (L : List Stp) (j : Nat) (W : List Int) (n : Nat) (i : Int) :
    T.path [false] (roundN D8 (byReg list2) dh1 [1,5,6,7,8] SO 1000 1002 (mkSt [1,5,6,7,8] (keysR SO) 1002 86 (vsO ⟨g, k, s, s'⟩ ⟨a, L, j, W, n, i⟩) (bsO ⟨g, k, s, s'⟩ ⟨a, L, j, W, n, i⟩))) =
      some ([(bif decide (i < (k : Int)) then decide (i < 150) else false, false)], (.exit 0, FO ⟨g, k, s, s'⟩ ⟨a, L, j, W, n, i⟩)) := by kernel_rfl
def decO : List V → List Blk → Option (PHo × AHo)
  | [.sub 0 1 0 k, .s (.int .i64 s), .ptr 1 0, .sub 1001 1 0 n, .s (.int .i64 i)], [.lst false t1 [.int .i64] g, .cells t2 [.s (.int .i64 s'), .s (.int .i64 a), .sub 1000 2 0 j], .lst true t3 [.int .i64, .int .i64] L, .lst true t4 [.int .i64] W] =>
    if t1 = 3 ∧ t2 = 96 ∧ t3 = 99 ∧ t4 = 3 then some (⟨g, k, s, s'⟩, ⟨a, L, j, W, n, i⟩) else none
  | _, _ => none
theorem decO_ok (l : List V) (b : List Blk) (d : PHo × AHo) (h : decO l b = some d) : l = vsO d.1 d.2 ∧ b = bsO d.1 d.2 := by
  unfold decO at h
  split at h
  · split at h
    · rename_i ht
      obtain ⟨rfl, rfl, rfl, rfl⟩ := ht
      cases h
      exact ⟨rfl, rfl⟩
    · cases h
  · cases h
theorem lpO_ok : LoopOk D8 dh1 (famWN [1,5,6,7,8] SO 1000 1002 86 decO invO nxtO outO') := by
  refine famWNS_ok (vs := vsO) (bs := bsO) D8_ok mixed lps2_ok decO_ok (fun p a => (150 - a.i).toNat) stO fun ⟨g, k, s, s'⟩ ⟨z, L, j, W, n, i⟩ h => ?_
  unfold invO at h
  rw [pdec_iff] at h
  obtain ⟨h1, h2, h3, h4, h5, h6, h7, h8, h9, h10⟩ := h
  dsimp only at h1 h2 h3 h4 h5 h6 h7 h8 h9 h10
  subst h1 h4 h5
  have h0 : 0 ≤ i := by omega
  simp only [nxtO, outO']
  by_cases hc : i < g.length ∧ i < 150
  · rw [if_pos hc]
    refine ⟨fun b hb => ?_, fun h => by cases h⟩
    obtain rfl := Option.some.inj hb
    have e := pathO_run g g.length s' s' z L j W W.length i
    have hw := wS_range g i
    have hput := dly_put h9 h0 (by omega) hw
    have hst := stk_put (w := wS g i) h9 (by omega) h10
    have hdl := hput.2
    simp only [dlyOk, Bool.and_eq_true, decide_eq_true_eq, List.all_eq_true, stepOk] at hdl
    obtain ⟨⟨⟨d1, d2⟩, d3⟩, d4⟩ := hdl
    unfold pathO at e
    dsimp only at e
    have ex : gI (W.take W.length ++ [wS g i]) i = wS g i := by rw [List.take_length, ← h6]; exact gI_last
    have eL : L.take (dropN L (wS g i) j) ++ [(i, wS g i)] = putN j L i (wS g i) := rfl
    have en : W.length + [wS g i].length = W.length + 1 := rfl
    rw [ex, List.take_length, eL, en] at e
    have hm0 : mx0 i = i := by unfold mx0; rw [if_neg (by omega)]
    have hq0 : q0O i s' = if i - s' + 1 > 0 then i - s' + 1 else 0 := by
      unfold q0O
      rw [wrap64_in (n := i - s') (by omega) (by omega), wrap64_in (n := i - s' + 1) (by omega) (by omega)]
    rw [hm0, wrap64_in (n := i + 1) (by omega) (by omega)] at e
    have hlen : (W ++ [wS g i]).length = W.length + 1 := by simp
    have hi2 : inv2 ⟨g, g.length, s', s', i, putN j L i (wS g i), dropN L (wS g i) j + 1, W ++ [wS g i], W.length + 1, i⟩ ⟨wS g i, q0O i s'⟩ = true := by
      simp only [inv2, Bool.and_eq_true, decide_eq_true_eq]
      refine ⟨⟨⟨hlen.symm, by omega⟩, by omega⟩, ?_⟩
      rw [hq0]; split <;> omega
    obtain ⟨e1, e2, e3⟩ := end2 hi2
    dsimp only at e2 e3
    have hmost : mostN s' i i (putN j L i (wS g i)).length (putN j L i (wS g i)) = (endW (nxt2 ⟨g, g.length, s', s', i, putN j L i (wS g i), dropN L (wS g i) j + 1, W ++ [wS g i], W.length + 1, i⟩) ⟨wS g i, q0O i s'⟩).m := by
      have hlast : gI (W ++ [wS g i]) i = wS g i := by rw [← h6]; exact gI_last
      have hlo : ∃ lo, 0 ≤ lo ∧ lo ≤ i ∧ (∀ x : Stp, 0 ≤ x.1 → x.1 ≤ i → (hitW s' i x = true ↔ lo ≤ x.1)) ∧ (lo = q0O i s' ∨ (lo = i ∧ i < q0O i s')) := by
        rw [hq0]
        by_cases c1 : s' = 0
        · subst c1
          refine ⟨i, h0, Int.le_refl _, fun x a b => ?_, ?_⟩
          · unfold hitW
            rw [wrap64_in (n := i - 0) (by omega) (by omega)]
            simp only [Bool.or_eq_true, decide_eq_true_eq]; omega
          · right; rw [if_pos (by omega)]; omega
        · by_cases c2 : i - s' + 1 > 0
          · refine ⟨i - s' + 1, by omega, by omega, fun x a b => ?_, ?_⟩
            · unfold hitW
              rw [wrap64_in (n := i - s') (by omega) (by omega)]
              simp only [Bool.or_eq_true, decide_eq_true_eq]; omega
            · left; rw [if_pos c2]
          · refine ⟨0, by omega, h0, fun x a b => ?_, ?_⟩
            · unfold hitW
              rw [wrap64_in (n := i - s') (by omega) (by omega)]
              simp only [Bool.or_eq_true, decide_eq_true_eq]; omega
            · left; rw [if_neg c2]
      obtain ⟨lo, l1, l2, l3, l4⟩ := hlo
      refine most_win (lo := lo) (W := W ++ [wS g i]) (by omega) d3 hst (fun x hx => ?_) l1 l2 (fun x hx => l3 x (d4 x hx).1.1.1 (by have := (d4 x hx).1.1.2; omega)) (fun k k1 k2 => ?_) ?_
      · have := d4 x hx; omega
      · by_cases c : k = i
        · rw [c, hlast]; exact e1
        · exact e2 k (by omega) (by omega)
      · rcases e3 with c | ⟨k, k1, k2, k3⟩
        · exact ⟨i, l2, Int.le_refl _, by rw [c, hlast]⟩
        · exact ⟨k, by omega, by omega, k3⟩
    rw [← d1] at hmost
    have k1 : (bif decide (i < (g.length : Int)) then decide (i < 150) else false) = true := by rw [cond_and, Bool.and_eq_true, decide_eq_true_eq, decide_eq_true_eq]; exact hc
    have k2 : (decide (0 ≤ i) && (decide (i < (g.length : Int)) && decide (0 + Int.toNat i < g.length))) = true := by simp only [Bool.and_eq_true, decide_eq_true_eq]; omega
    have k3 : decide (0 + Int.toNat i < g.length) = true := by simp only [decide_eq_true_eq]; omega
    have k4 : (true && (decide (W.length ≤ W.length) && decide (W.length + 1 ≤ 1000000))) = true := by simp only [Bool.true_and, Bool.and_eq_true, decide_eq_true_eq]; omega
    have k5 : (decide (0 ≤ i) && (decide (i < ((W.length + 1 : Nat) : Int)) && decide (0 + Int.toNat i < (W ++ [wS g i]).length))) = true := by rw [hlen]; simp only [Bool.and_eq_true, decide_eq_true_eq]; omega
    have k6 : decide (0 + Int.toNat i < (W ++ [wS g i]).length) = true := by rw [hlen]; simp only [decide_eq_true_eq]; omega
    have k7 : (mostN s' i i (dropN L (wS g i) j + 1) (putN j L i (wS g i)) != (endW (nxt2 ⟨g, g.length, s', s', i, putN j L i (wS g i), dropN L (wS g i) j + 1, W ++ [wS g i], W.length + 1, i⟩) ⟨wS g i, q0O i s'⟩).m) = false := by rw [hmost]; simp
    have hv := T.path_eval e ⟨k1, k2, k3, rfl, k4, k5, k6, refB_in h8 (by omega) hw.1 (by omega), hput.1, rfl, k5, k6, hi2, invW_of (by omega) (by omega), k7, trivial⟩
    exact hv
  · rw [if_neg hc]
    refine ⟨fun b hb => (by cases hb), fun _ r hr => ?_⟩
    obtain rfl := Option.some.inj hr
    refine ⟨by simp, ?_⟩
    have hv := T.path_eval (exitO_run g g.length s' s' z L j W W.length i) ⟨by rw [cond_and, Bool.and_eq_false_iff, decide_eq_false_iff_not, decide_eq_false_iff_not]; omega, trivial⟩
    exact hv
noncomputable def holist : List (Nat × LSpec) := [(7, famWN [1,5,6,7,8] SO 1000 1002 86 decO invO nxtO outO')]
theorem hofind : findL holist 7 = some (famWN [1,5,6,7,8] SO 1000 1002 86 decO invO nxtO outO') := rfl
theorem horeg : firstReg dh1 = some 7 := by kernel_rfl
theorem holps_ok : ∀ a ∈ loopsIn (codeOf Try.prog 20), ∀ sp, byReg holist a = some sp → LoopOk D8 a sp := by
  have e : loopsIn (codeOf Try.prog 20) = [dh1] := by kernel_rfl
  rw [e]
  intro a ha
  rcases List.mem_cons.1 ha with h | ha
  · rw [h]; exact byReg_mem horeg hofind lpO_ok
  · cases ha
end Go.Proofs.Ytmijloophkkanaa.Del
