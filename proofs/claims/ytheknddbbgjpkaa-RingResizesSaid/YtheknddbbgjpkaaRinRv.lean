/- Layer 5: RingResizes. -/
import Derived.Test.YtheknddbbgjpkaaRinRu
namespace Go.Proofs.Ytheknddbbgjpkaa.Rin
open Go.Eng Go.RowKit Mil
set_option linter.unusedVariables false
set_option linter.unusedSimpArgs false
def pD (x y k : Int) : PRd := ⟨x, y, k, x, 1, nN x 1, false, -1, emptyR (nN x 1), 0⟩
def aD (x : Int) : ARd := ⟨-1, emptyR (nN x 1), 0⟩
noncomputable def eD (x y k : Int) : ARd := endW (nxtC okRd goRd rdRd FRd muRd (pD x y k)) (aD x)
noncomputable def rz1 (x y k : Int) : RS := sRd (pD x y k) (eD x y k)
noncomputable def rz2 (x y k : Int) : RS := (rz1 x y k).res y
noncomputable def rz3 (x y k : Int) : RS := (rz2 x y k).sum (wI (k - 1))
noncomputable def pE (x y k : Int) : PRe := ⟨x, y, k, y, 1, nN y 1, (rz3 x y k).ov⟩
noncomputable def aE (x y k : Int) : ARe := ⟨(rz3 x y k).nw, (rz3 x y k).l, k⟩
noncomputable def eE (x y k : Int) : ARe := endW (nxtC okRe goRe rdRe FRe muRe (pE x y k)) (aE x y k)
noncomputable def rz4 (x y k : Int) : RS := sRe (pE x y k) (eE x y k)
theorem wayResiz (a b c x y k : Int) (hx : wI (1 + wI (Int.tmod (IntKind.wrap .u64 a) 60)) = x) (hy : wI (1 + wI (Int.tmod (IntKind.wrap .u64 b) 60)) = y) (hk : wI (1 + wI (Int.tmod (IntKind.wrap .u64 c) 100)) = k) :
    T.path ([false, false, false, false, true] ++ ([true, false, true] ++ ([false] ++ ([true, false, true] ++ ([false, true] ++ ([true, false, true] ++ [true, true, true])))))) (T.anon (resizR a b c)) =
    some ([((60 : Int) == 0, false), ((60 : Int) == 0, false), ((100 : Int) == 0, false), (badN x 1, false), (invC okRd (pD x y k) (aD x), true)] ++ (resC (rz1 x y k) y ++ ([((0 : Int) != 0, false)] ++ (sumC (rz2 x y k) (wI (k - 1)) ++ ([(((rz2 x y k).sumA (wI (k - 1))).c != mnR k (mnR x y), false), (invC okRe (pE x y k) (aE x y k), true)] ++
      (sumC (rz4 x y k) (wI (wI (2 * k) - 1)) ++ [(((rz4 x y k).sumA (wI (wI (2 * k) - 1))).c == mnR y (wI (mnR k (mnR x y) + k)), true), (decide (0 < nN y 1), true), (badX 601 1, true)]))))), .s (.bool (anB (((rz4 x y k).sumA (wI (wI (2 * k) - 1))).c == mnR y (wI (mnR k (mnR x y) + k))) ((1 : Int) == 1)))) := by subst hx; subst hy; subst hk; kernel_rfl
theorem mnR2 (a b : Int) : mnR a b ≤ a ∧ mnR a b ≤ b ∧ (mnR a b = a ∨ mnR a b = b) := by unfold mnR; split <;> omega
theorem mnR3 (k x y : Int) : mnR k (mnR x y) ≤ k ∧ mnR k (mnR x y) ≤ x ∧ mnR k (mnR x y) ≤ y ∧ (mnR k (mnR x y) = k ∨ mnR k (mnR x y) = x ∨ mnR k (mnR x y) = y) := by
  obtain ⟨a1, a2, a3⟩ := mnR2 x y
  obtain ⟨b1, b2, b3⟩ := mnR2 k (mnR x y)
  omega
theorem rz_a {x y k : Int} (hx : 1 ≤ x ∧ x ≤ 60) (hy : 1 ≤ y ∧ y ≤ 60) (hk : 1 ≤ k ∧ k ≤ 100) : okRd (pD x y k) (aD x) ∧ allSay (resC (rz1 x y k) y) ∧ (rz2 x y k).nw = k - 1 ∧ HoldsR (rz2 x y k) ((seg 0 k.toNat).filter fun p => decide (k - 1 - x < p.1)) := by
  have nx : ((nN x 1 : Nat) : Int) = x := nN_one hx.1
  have ok1 : okRd (pD x y k) (aD x) := ⟨rfl, by show k ≤ 100; omega, Int.le_refl _, by show (0 : Int) ≤ k; omega, rfl, HoldsR.new (w := x) (g := 1) (by omega) (by omega) (by omega)⟩
  obtain ⟨f1, f2⟩ := endC stepRd ok1
  have i1 : (eD x y k).i = k := by
    have q1 : (eD x y k).i ≤ k := f1.i1
    have q2 : ¬ (eD x y k).i < k := of_decide_eq_false f2
    omega
  have h1 : HoldsR (rz1 x y k) (seg 0 k.toNat) := by
    have : HoldsR (rz1 x y k) (seg 0 (eD x y k).i.toNat) := f1.hs
    rw [i1] at this; exact this
  have w1 : (rz1 x y k).nw = k - 1 := by
    have : (eD x y k).nw = (eD x y k).i - 1 := f1.nw
    rw [i1] at this; exact this
  obtain ⟨c1, h2⟩ := h1.res (x := y) (by show (1 : Int) ≤ y; omega) (by omega)
  rw [w1, show ((rz1 x y k).n : Int) = x from nx] at h2
  exact ⟨ok1, c1, w1, h2⟩
theorem rz_b {x y k : Int} (hx : 1 ≤ x ∧ x ≤ 60) (hy : 1 ≤ y ∧ y ≤ 60) (hk : 1 ≤ k ∧ k ≤ 100) : allSay (sumC (rz2 x y k) (k - 1)) ∧ ((rz2 x y k).sumA (k - 1)).c = mnR k (mnR x y) ∧ okRe (pE x y k) (aE x y k) := by
  obtain ⟨_, _, w2, h2⟩ := rz_a hx hy hk
  have ny : ((nN y 1 : Nat) : Int) = y := nN_one hy.1
  have k1 : wI (k - 1) = k - 1 := wrap64_in (by omega) (by omega)
  have d1 : ∀ t : Int, Int.tdiv t 1 = t := Int.tdiv_one
  obtain ⟨c2, h3, v2⟩ := h2.sum (t := k - 1) (by omega) (by omega)
  have s3 : (rz2 x y k).sum (k - 1) = rz3 x y k := by unfold rz3; rw [k1]
  rw [s3] at h3
  have v2 := (smV_s v2).2.1
  have v2 : ((rz2 x y k).sumA (k - 1)).c = ((wn (frR (nN y 1) (rz2 x y k).nw (Int.tdiv (k - 1) 1)) (Int.tdiv (k - 1) 1 + 1) ((seg 0 k.toNat).filter fun p => decide (k - 1 - x < p.1))).length : Int) := v2
  rw [d1, w2, wn_flt, seg_wn] at v2
  unfold frR at v2
  rw [mxR_l (Int.le_refl _), ny] at v2
  refine ⟨c2, ?_, rfl, hk.1, hk.2, Int.le_refl _, by show k ≤ 2 * k; omega, ?_, ?_⟩
  · rw [v2]
    obtain ⟨m1, m2, m3, m4⟩ := mnR3 k x y
    by_cases q : 0 > k - 1 - y + 1
    · rw [if_pos q]; omega
    · rw [if_neg q]; omega
  · show (rz3 x y k).nw = k - 1; rw [← s3]; exact w2
  · show HoldsR (rz3 x y k) (sgE (pE x y k) k)
    unfold sgE
    rw [show k - (pE x y k).k = 0 from Int.sub_self k]
    show HoldsR (rz3 x y k) (_ ++ [])
    rw [List.append_nil]
    exact h3
theorem rz_c {x y k : Int} (hx : 1 ≤ x ∧ x ≤ 60) (hy : 1 ≤ y ∧ y ≤ 60) (hk : 1 ≤ k ∧ k ≤ 100) : allSay (sumC (rz4 x y k) (2 * k - 1)) ∧ ((rz4 x y k).sumA (2 * k - 1)).c = mnR y (mnR k (mnR x y) + k) := by
  obtain ⟨_, _, ok2⟩ := rz_b hx hy hk
  have ny : ((nN y 1 : Nat) : Int) = y := nN_one hy.1
  have d1 : ∀ t : Int, Int.tdiv t 1 = t := Int.tdiv_one
  obtain ⟨g1, g2⟩ := endC stepRe ok2
  have i2 : (eE x y k).i = 2 * k := by
    have q1 : (eE x y k).i ≤ 2 * k := g1.i1
    have q2 : ¬ (eE x y k).i < 2 * k := of_decide_eq_false g2
    omega
  have w4 : (rz4 x y k).nw = 2 * k - 1 := by
    have : (eE x y k).nw = (eE x y k).i - 1 := g1.nw
    rw [i2] at this; exact this
  have h4 : HoldsR (rz4 x y k) (((seg 0 k.toNat).filter fun z => decide (k - 1 - x < z.1)) ++ seg k k.toNat) := by
    have : HoldsR (rz4 x y k) (sgE (pE x y k) (eE x y k).i) := g1.hs
    rw [i2] at this
    unfold sgE at this
    rw [show (2 * k - (pE x y k).k).toNat = k.toNat by show (2 * k - k).toNat = k.toNat; omega] at this
    exact this
  obtain ⟨c4, h5, v4⟩ := h4.sum (t := 2 * k - 1) (by omega) (by omega)
  have v4 := (smV_s v4).2.1
  have v4 : ((rz4 x y k).sumA (2 * k - 1)).c = ((wn (frR (nN y 1) (rz4 x y k).nw (Int.tdiv (2 * k - 1) 1)) (Int.tdiv (2 * k - 1) 1 + 1) (((seg 0 k.toNat).filter fun z => decide (k - 1 - x < z.1)) ++ seg k k.toNat)).length : Int) := v4
  rw [d1, w4, wn_app, List.length_append, wn_flt, Int.natCast_add, seg_wn, seg_wn] at v4
  unfold frR at v4
  rw [mxR_l (Int.le_refl _), ny] at v4
  refine ⟨c4, ?_⟩
  rw [v4]
  obtain ⟨m1, m2, m3, m4⟩ := mnR3 k x y
  obtain ⟨p1, p2, p3⟩ := mnR2 y (mnR k (mnR x y) + k)
  by_cases q : 0 > 2 * k - 1 - y + 1
  · rw [if_pos q]; omega
  · rw [if_neg q]; omega
theorem resiz_run (a b c : Int) : (resizR a b c).eval = some (.s (.bool true)) := by
  rw [← T.eval_anon (t := resizR a b c)]
  have hA : 0 ≤ wI (Int.tmod (IntKind.wrap .u64 a) 60) ∧ wI (Int.tmod (IntKind.wrap .u64 a) 60) < 60 := modI a (by omega) (by omega)
  have hB : 0 ≤ wI (Int.tmod (IntKind.wrap .u64 b) 60) ∧ wI (Int.tmod (IntKind.wrap .u64 b) 60) < 60 := modI b (by omega) (by omega)
  have hC : 0 ≤ wI (Int.tmod (IntKind.wrap .u64 c) 100) ∧ wI (Int.tmod (IntKind.wrap .u64 c) 100) < 100 := modI c (by omega) (by omega)
  have e1 : wI (1 + wI (Int.tmod (IntKind.wrap .u64 a) 60)) = 1 + wI (Int.tmod (IntKind.wrap .u64 a) 60) := wrap64_in (by omega) (by omega)
  have e2 : wI (1 + wI (Int.tmod (IntKind.wrap .u64 b) 60)) = 1 + wI (Int.tmod (IntKind.wrap .u64 b) 60) := wrap64_in (by omega) (by omega)
  have e3 : wI (1 + wI (Int.tmod (IntKind.wrap .u64 c) 100)) = 1 + wI (Int.tmod (IntKind.wrap .u64 c) 100) := wrap64_in (by omega) (by omega)
  have way := wayResiz a b c _ _ _ e1 e2 e3
  have hx : 1 ≤ 1 + wI (Int.tmod (IntKind.wrap .u64 a) 60) ∧ 1 + wI (Int.tmod (IntKind.wrap .u64 a) 60) ≤ 60 := by omega
  have hy : 1 ≤ 1 + wI (Int.tmod (IntKind.wrap .u64 b) 60) ∧ 1 + wI (Int.tmod (IntKind.wrap .u64 b) 60) ≤ 60 := by omega
  have hk : 1 ≤ 1 + wI (Int.tmod (IntKind.wrap .u64 c) 100) ∧ 1 + wI (Int.tmod (IntKind.wrap .u64 c) 100) ≤ 100 := by omega
  revert way hx hy hk
  generalize 1 + wI (Int.tmod (IntKind.wrap .u64 a) 60) = x
  generalize 1 + wI (Int.tmod (IntKind.wrap .u64 b) 60) = y
  generalize 1 + wI (Int.tmod (IntKind.wrap .u64 c) 100) = k
  intro way hx hy hk
  obtain ⟨ok1, c1, _, _⟩ := rz_a hx hy hk
  obtain ⟨c2, v2, ok2⟩ := rz_b hx hy hk
  obtain ⟨c4, v4⟩ := rz_c hx hy hk
  clear hA hB hC e1 e2 e3
  have k1 : wI (k - 1) = k - 1 := wrap64_in (by omega) (by omega)
  have k2 : wI (2 * k) = 2 * k := wrap64_in (by omega) (by omega)
  have k3 : wI (2 * k - 1) = 2 * k - 1 := wrap64_in (by omega) (by omega)
  have hm := mnR3 k x y
  have k4 : wI (mnR k (mnR x y) + k) = mnR k (mnR x y) + k := wrap64_in (by omega) (by omega)
  have ny : ((nN y 1 : Nat) : Int) = y := nN_one hy.1
  rw [k1, k2, k3, k4] at way
  have fin : anB (((rz4 x y k).sumA (2 * k - 1)).c == mnR y (mnR k (mnR x y) + k)) ((1 : Int) == 1) = true := anB_t (by rw [v4]; exact beqI _) rfl
  refine (T.path_eval way ?_).trans (congrArg (fun b => some (V.s (S.bool b))) fin)
  exact allSay_append ⟨rfl, rfl, rfl, badN_false.2 ⟨by omega, by omega, by omega⟩, invC_is ok1, trivial⟩ (allSay_append c1 (allSay_append ⟨rfl, trivial⟩ (allSay_append c2 (allSay_append ⟨by rw [v2]; simp, invC_is ok2, trivial⟩ (allSay_append c4 ⟨by rw [v4]; exact beqI _, decide_eq_true (by omega), by decide, trivial⟩)))))
theorem resiz_walk (a : Int) (_ : (Lit.int .i64 a).wf = true) (b : Int) (_ : (Lit.int .i64 b).wf = true) (c : Int) (_ : (Lit.int .i64 c).wf = true) (w : World) :
    Calls Try.prog 16 #[.int .i64 a, .int .i64 b, .int .i64 c] w fun e w' => e = .returned (.bool true) ∧ Below w.heap.size w w' :=
  law_calls (execS_loops (Λ := byReg [(rgRd, famRd), (rgRe, famRe)]) RL_ok mixed Try.func16 (by kernel_rfl) (by kernel_rfl) (two_lp (c := lpRd) (c' := lpRe) (by kernel_rfl) rgRd_is rgRe_is (by kernel_rfl) lpRd_ok lpRe_ok)) (args := [iv a, iv b, iv c]) rfl (resiz_run a b c) (.inr rfl) w
end Go.Proofs.Ytheknddbbgjpkaa.Rin
