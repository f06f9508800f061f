/- Layer 5: RingSteady. -/
import Derived.Test.YtheknddbbgjpkaaRinSb
namespace Go.Proofs.Ytheknddbbgjpkaa.Rin
open Go.Eng Go.RowKit Mil
set_option linter.unusedVariables false
set_option linter.unusedSimpArgs false
noncomputable def st0 (w g : Int) : RS := (RS.new w g).sum 5
def pF (x k w g : Int) : PRf := ⟨x, k, w, g, nN w g⟩
noncomputable def aF (w g : Int) : ARf := ⟨(st0 w g).nw, (st0 w g).ov, (st0 w g).l, 0⟩
noncomputable def eF (x k w g : Int) : ARf := endW (nxtC okRf goRf rdRf FRf muRf (pF x k w g)) (aF w g)
noncomputable def st1 (x k w g : Int) : RS := sRf (pF x k w g) (eF x k w g)
noncomputable def st2 (x k w g : Int) : RS := (st1 x k w g).sum (wI (k - 1))
noncomputable def stV (x k w g : Int) : Bool := anB (anB (((st1 x k w g).sumA (wI (k - 1))).s == wI (x * ((st1 x k w g).sumA (wI (k - 1))).c)) (decide (1 ≤ ((st1 x k w g).sumA (wI (k - 1))).c))) (decide (((st1 x k w g).sumA (wI (k - 1))).c ≤ k))
theorem wayStdy (a b c d w g x k : Int) (hw : wI (1 + wI (Int.tmod (IntKind.wrap .u64 a) 60)) = w) (hg : wI (1 + wI (Int.tmod (IntKind.wrap .u64 b) (IntKind.wrap .u64 w))) = g) (hx : wI (Int.tmod (IntKind.wrap .u64 c) 1000000000) = x) (hk : wI (1 + wI (Int.tmod (IntKind.wrap .u64 d) 200)) = k) :
    T.path ([false, false, false] ++ ([true, false, true] ++ ([false, false, false, true] ++ ([true, false, true] ++ ([true] ++ [true, false, true]))))) (T.anon (stdyR a b c d)) =
    some ([((60 : Int) == 0, false), (IntKind.wrap .u64 w == 0, false), (badN w g, false)] ++ (sumC (RS.new w g) 5 ++ ([((RS.new w g).mean 5 != 0, false), ((1000000000 : Int) == 0, false), ((200 : Int) == 0, false), (invC okRf (pF x k w g) (aF w g), true)] ++
      (sumC (st1 x k w g) (wI (k - 1)) ++ ([(stV x k w g, true)] ++ sumC (st2 x k w g) (wI (k + 1000)))))), .s (.bool (anB (stV x k w g) ((st2 x k w g).mean (wI (k + 1000)) == 0)))) := by subst hw; subst hg; subst hx; subst hk; kernel_rfl
theorem sd_a {x k w g : Int} (hx : 0 ≤ x ∧ x < 1000000000) (hk : 1 ≤ k ∧ k ≤ 200) (hw : w ≤ 60) (hg : 1 ≤ g ∧ g ≤ w) : allSay (sumC (RS.new w g) 5) ∧ (RS.new w g).mean 5 = 0 ∧ okRf (pF x k w g) (aF w g) := by
  have h0 : HoldsR (RS.new w g) [] := HoldsR.new hg.1 hg.2 (by omega)
  obtain ⟨c0, h1, v⟩ := h0.sum (t := 5) (by omega) (by omega)
  obtain ⟨v1, v2, _⟩ := smV_s v
  refine ⟨c0, ?_, hx.1, hx.2, hk.2, Int.le_refl _, by show 0 ≤ k; omega, [], ?_⟩
  · unfold RS.mean; rw [v1, v2]; rfl
  · exact ⟨h1, (fun z hz => by cases hz), rfl, .inl ⟨rfl, rfl⟩⟩
theorem sd_b {x k w g : Int} (hx : 0 ≤ x ∧ x < 1000000000) (hk : 1 ≤ k ∧ k ≤ 200) (hw : w ≤ 60) (hg : 1 ≤ g ∧ g ≤ w) :
    allSay (sumC (st1 x k w g) (k - 1)) ∧ stV x k w g = true ∧ allSay (sumC (st2 x k w g) (k + 1000)) ∧ (st2 x k w g).mean (k + 1000) = 0 := by
  obtain ⟨_, _, ok1⟩ := sd_a hx hk hw hg
  have k1 : wI (k - 1) = k - 1 := wrap64_in (by omega) (by omega)
  obtain ⟨f1, f2⟩ := endC stepRf ok1
  have i1 : (eF x k w g).i = k := by
    have q1 : (eF x k w g).i ≤ k := f1.i1
    have q2 : ¬ (eF x k w g).i < k := of_decide_eq_false f2
    omega
  obtain ⟨rs, hr⟩ := f1.rs
  have hr : hRf (pF x k w g) (st1 x k w g) k rs := by
    have hr : hRf (pF x k w g) (st1 x k w g) (eF x k w g).i rs := hr
    rw [i1] at hr; exact hr
  have hx0 : 0 ≤ (pF x k w g).x := hx.1
  have hx1 : (pF x k w g).x < 1000000000 := hx.2
  have hnw : (st1 x k w g).nw = (k - 1) / g := by
    rcases hr.lst with ⟨q, _⟩ | ⟨q, _⟩
    · omega
    · exact q
  obtain ⟨c1, h1, _⟩ := hr.hs.sum (t := k - 1) (by omega) (by omega)
  obtain ⟨c, d0, d1, d2, d3, d4, d5, d6⟩ := steady_sum hx0 hx1 hr hk.2 (by omega) (t := k - 1) (by omega) (by omega)
  have hc1 : 1 ≤ c := d5 (by rw [hnw]; exact Int.tdiv_eq_ediv_of_nonneg (by omega)) hk.1
  have s2 : (st1 x k w g).sum (k - 1) = st2 x k w g := by unfold st2; rw [k1]
  rw [s2] at h1
  have hr2 : hRf (pF x k w g) (st2 x k w g) k rs := ⟨h1, hr.cst, hr.len, by rw [← s2]; exact hr.lst⟩
  obtain ⟨c2, _, _⟩ := h1.sum (t := k + 1000) (by omega) (by omega)
  obtain ⟨e, e0, e1, e2, e3, e4, e5, e6⟩ := steady_sum hx0 hx1 hr2 hk.2 (by omega) (t := k + 1000) (by omega) (by omega)
  have xc : 0 ≤ x * c ∧ x * c ≤ 1000000000 * 200 := ⟨Int.mul_nonneg hx.1 (by omega), Int.mul_le_mul (by omega) (by omega) (by omega) (by omega)⟩
  have x1 : wI (x * c) = x * c := wrap64_in (by omega) (by omega)
  have d3 : ((st1 x k w g).sumA (k - 1)).s = x * c := d3
  have he : e = 0 := by
    refine e6 ?_
    have hnw2 : (st2 x k w g).nw = (k - 1) / g := by rw [← s2]; exact hnw
    have hn2 : (st2 x k w g).n = nN w g := rfl
    rw [hnw2, hn2, show Int.tdiv (k + 1000) (st2 x k w g).g = (k + 1000) / g from Int.tdiv_eq_ediv_of_nonneg (by omega)]
    obtain ⟨n0, n1, n2, n3, n4⟩ := nN_bd hg.1 hg.2 (by omega)
    have gn : ((nN w g : Nat) : Int) * g < w + g := by
      have : g * ((nN w g : Int) - 1) = (nN w g : Int) * g - g := by rw [Int.mul_sub, Int.mul_one, Int.mul_comm]
      omega
    have up := Int.add_mul_ediv_right (k - 1) (nN w g : Int) (show g ≠ 0 by omega)
    have le : (k - 1 + (nN w g : Int) * g) / g ≤ (k + 1000) / g := Int.ediv_le_ediv (by omega) (by omega)
    omega
  refine ⟨c1, ?_, c2, ?_⟩
  · unfold stV
    rw [k1, d2, d3, x1]
    exact anB_t (anB_t (beqI _) (decide_eq_true hc1)) (decide_eq_true d1)
  · unfold RS.mean
    rw [e2, he]; rfl
theorem stdy_run (a b c d : Int) : (stdyR a b c d).eval = some (.s (.bool true)) := by
  rw [← T.eval_anon (t := stdyR a b c d)]
  have hA : 0 ≤ wI (Int.tmod (IntKind.wrap .u64 a) 60) ∧ wI (Int.tmod (IntKind.wrap .u64 a) 60) < 60 := modI a (by omega) (by omega)
  have hX : 0 ≤ wI (Int.tmod (IntKind.wrap .u64 c) 1000000000) ∧ wI (Int.tmod (IntKind.wrap .u64 c) 1000000000) < 1000000000 := modI c (by omega) (by omega)
  have hK : 0 ≤ wI (Int.tmod (IntKind.wrap .u64 d) 200) ∧ wI (Int.tmod (IntKind.wrap .u64 d) 200) < 200 := modI d (by omega) (by omega)
  have e1 : wI (1 + wI (Int.tmod (IntKind.wrap .u64 a) 60)) = 1 + wI (Int.tmod (IntKind.wrap .u64 a) 60) := wrap64_in (by omega) (by omega)
  have e3 : wI (1 + wI (Int.tmod (IntKind.wrap .u64 d) 200)) = 1 + wI (Int.tmod (IntKind.wrap .u64 d) 200) := wrap64_in (by omega) (by omega)
  have hw : 1 ≤ 1 + wI (Int.tmod (IntKind.wrap .u64 a) 60) ∧ 1 + wI (Int.tmod (IntKind.wrap .u64 a) 60) ≤ 60 := by omega
  have hk : 1 ≤ 1 + wI (Int.tmod (IntKind.wrap .u64 d) 200) ∧ 1 + wI (Int.tmod (IntKind.wrap .u64 d) 200) ≤ 200 := by omega
  have way := fun g hg => wayStdy a b c d _ g _ _ e1 hg rfl e3
  clear e1 e3 hA hK
  revert way hw hk hX
  generalize 1 + wI (Int.tmod (IntKind.wrap .u64 a) 60) = w
  generalize 1 + wI (Int.tmod (IntKind.wrap .u64 d) 200) = k
  generalize wI (Int.tmod (IntKind.wrap .u64 c) 1000000000) = x
  intro hx hw hk way
  have wu : IntKind.wrap .u64 w = w := wrapu (by omega) (by omega)
  rw [wu] at way
  have hB : 0 ≤ wI (Int.tmod (IntKind.wrap .u64 b) w) ∧ wI (Int.tmod (IntKind.wrap .u64 b) w) < w := modI b (by omega) (by omega)
  have e2 : wI (1 + wI (Int.tmod (IntKind.wrap .u64 b) w)) = 1 + wI (Int.tmod (IntKind.wrap .u64 b) w) := wrap64_in (by omega) (by omega)
  have way := way _ e2
  have hg : 1 ≤ 1 + wI (Int.tmod (IntKind.wrap .u64 b) w) ∧ 1 + wI (Int.tmod (IntKind.wrap .u64 b) w) ≤ w := by omega
  clear e2 hB
  revert way hg
  generalize 1 + wI (Int.tmod (IntKind.wrap .u64 b) w) = g
  intro way hg
  obtain ⟨c1, m1, ok1⟩ := sd_a hx hk hw.2 hg
  obtain ⟨c2, v2, c3, m3⟩ := sd_b hx hk hw.2 hg
  have k1 : wI (k - 1) = k - 1 := wrap64_in (by omega) (by omega)
  have k2 : wI (k + 1000) = k + 1000 := wrap64_in (by omega) (by omega)
  rw [k1, k2] at way
  have fin : anB (stV x k w g) ((st2 x k w g).mean (k + 1000) == 0) = true := anB_t v2 (by rw [m3]; rfl)
  refine (T.path_eval way ?_).trans (congrArg (fun b => some (V.s (S.bool b))) fin)
  exact allSay_append ⟨rfl, by rw [beq_eq_false_iff_ne]; omega, badN_false.2 ⟨by omega, by omega, by omega⟩, trivial⟩ (allSay_append c1 (allSay_append ⟨by rw [m1]; rfl, (by kernel_rfl), rfl, invC_is ok1, trivial⟩ (allSay_append c2 (allSay_append ⟨v2, trivial⟩ c3))))
theorem stdy_walk (a : Int) (_ : (Lit.int .i64 a).wf = true) (b : Int) (_ : (Lit.int .i64 b).wf = true) (c : Int) (_ : (Lit.int .i64 c).wf = true) (d : Int) (_ : (Lit.int .i64 d).wf = true) (w : World) :
    Calls Try.prog 12 #[.int .i64 a, .int .i64 b, .int .i64 c, .int .i64 d] w fun e w' => e = .returned (.bool true) ∧ Below w.heap.size w w' :=
  law_calls (execS_loops (Λ := byReg [(rgRf, famRf)]) RL_ok mixed Try.func12 (by kernel_rfl) (by kernel_rfl) (one_lp (c := lpRf) (by kernel_rfl) rgRf_is lpRf_ok)) (args := [iv a, iv b, iv c, iv d]) rfl (stdy_run a b c d) (.inr rfl) w
end Go.Proofs.Ytheknddbbgjpkaa.Rin
