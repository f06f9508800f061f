/- Layer 5: RingGrains. -/
import Derived.Test.YtheknddbbgjpkaaRinFo
namespace Go.Proofs.Ytheknddbbgjpkaa.Rin
open Go.Eng Go.RowKit Mil
set_option linter.unusedVariables false
set_option linter.unusedSimpArgs false
noncomputable def gr1 (w g : Int) : RS := (RS.new w g).put 1000 7
noncomputable def grC (w g a : Int) : Int := ((gr1 w g).sumA (wI (1000 + a))).c
noncomputable def grV (w g a : Int) : Bool := anB (anB (anB (anB (anB (w == w) (decide (w ≤ wI ((nN w g : Int) * g)))) (decide (wI (wI ((nN w g : Int) - 1) * g) < w))) ((grC w g a == 1) == decide (wI (g * wI (wI (wI (Int.tdiv (wI (1000 + a)) g) - (nN w g : Int)) + 1)) ≤ 1000))) (bif bif decide (w ≤ a) then true else grC w g a == 1 then true else decide (wI (w - g) < a))) (bif decide (a < wI (w + g)) then true else grC w g a == 0)
theorem wayGr (a b c w g x : Int) (hw : wI (1 + wI (Int.tmod (IntKind.wrap .u64 a) 60)) = w) (hg : wI (1 + wI (Int.tmod (IntKind.wrap .u64 b) (IntKind.wrap .u64 w))) = g) (hx : wI (Int.tmod (IntKind.wrap .u64 c) 200) = x) :
    T.path ([false, false, false, false] ++ ([true, false, true] ++ ([false] ++ ([true, false, true] ++ [true, false])))) (T.anon (grainR a b c)) =
    some ([((60 : Int) == 0, false), (IntKind.wrap .u64 w == 0, false), (badN w g, false), ((200 : Int) == 0, false)] ++ (putC (RS.new w g) 1000 7 ++ ([((0 : Int) != 0, false)] ++ (sumC (gr1 w g) (wI (1000 + x)) ++ [(decide (0 < (nN w g : Int)), true), (g == 0, false)]))), .s (.bool (grV w g x))) := by subst hw; subst hg; subst hx; kernel_rfl
theorem div_le_iff {g x q : Int} (hg : 1 ≤ g) : q ≤ x / g ↔ g * q ≤ x := by rw [Int.le_ediv_iff_mul_le (by omega), Int.mul_comm]
theorem grain_run (a b c : Int) : (grainR a b c).eval = some (.s (.bool true)) := by
  rw [← T.eval_anon (t := grainR a b c)]
  have hA := modI a (show (0 : Int) < 60 by omega) (by omega)
  have hC := modI c (show (0 : Int) < 200 by omega) (by omega)
  generalize hq : IntKind.wrap .i64 (Int.tmod (IntKind.wrap .u64 a) 60) = q at *
  generalize hx : IntKind.wrap .i64 (Int.tmod (IntKind.wrap .u64 c) 200) = x at *
  have hw : wI (1 + q) = 1 + q := wrap64_in (by omega) (by omega)
  generalize hwq : 1 + q = w at *
  have wu : IntKind.wrap .u64 w = w := wrapu (by omega) (by omega)
  have hB := modI b (show (0 : Int) < w by omega) (by omega)
  generalize hy : IntKind.wrap .i64 (Int.tmod (IntKind.wrap .u64 b) w) = y at *
  have hg : wI (1 + y) = 1 + y := wrap64_in (by omega) (by omega)
  generalize hgy : 1 + y = g at *
  have way := wayGr a b c w g x (by rw [← hw, ← hwq, ← hq]) (by rw [wu, ← hg, ← hgy, ← hy]) hx
  have g1 : 1 ≤ g := by omega
  have gw : g ≤ w := by omega
  have w60 : w ≤ 60 := by omega
  obtain ⟨n0, n1, n2, n3, n4⟩ := nN_bd g1 gw (by omega)
  have e1 : wI (1000 + x) = 1000 + x := wrap64_in (by omega) (by omega)
  obtain ⟨c1, h1⟩ := (HoldsR.new g1 gw (by omega)).put (t := 1000) (v := 7) (by omega) (by omega) (by omega) (by omega) (by simp)
  have dv : ∀ t : Int, 0 ≤ t → Int.tdiv t g = t / g := fun t ht => Int.tdiv_eq_ediv_of_nonneg ht
  have b0 : 0 ≤ 1000 / g := Int.ediv_nonneg (by omega) (by omega)
  have w1 : (gr1 w g).nw = 1000 / g := by show mxR (-1) (Int.tdiv 1000 g) = _; rw [dv _ (by omega)]; exact mxR_r (by omega)
  rw [putRs_in (by show mxR (-1) (Int.tdiv 1000 g) - (nN w g : Nat) < Int.tdiv 1000 g; rw [dv _ (by omega), mxR_r (by omega)]; omega)] at h1
  have h1 : HoldsR (gr1 w g) [(1000 / g, 7)] := by
    have := h1
    rw [show Int.tdiv 1000 (RS.new w g).g = 1000 / g from dv _ (by omega)] at this
    exact this
  obtain ⟨c2, h2, v2⟩ := h1.sum (t := 1000 + x) (by omega) (by omega)
  have v2 := (smV_s v2).2.1
  have la : 1000 / g ≤ (1000 + x) / g := Int.ediv_le_ediv (by omega) (by omega)
  have v2 : grC w g x = ((wn (frR (nN w g) (gr1 w g).nw (Int.tdiv (1000 + x) g)) (Int.tdiv (1000 + x) g + 1) [(1000 / g, 7)]).length : Int) := by unfold grC; rw [e1]; exact v2
  rw [dv _ (by omega), w1, wn_one] at v2
  unfold frR at v2
  rw [mxR_l la] at v2
  -- whether it is still held
  have hK : (grC w g x = 1 ∧ (1000 + x) / g - nN w g + 1 ≤ 1000 / g) ∨ (grC w g x = 0 ∧ 1000 / g < (1000 + x) / g - nN w g + 1) := by
    by_cases q : (1000 + x) / g - nN w g + 1 ≤ 1000 / g
    · rw [if_pos (by split <;> omega)] at v2; exact .inl ⟨by rw [v2]; rfl, q⟩
    · rw [if_neg (by rw [if_neg (by omega)]; omega)] at v2; exact .inr ⟨by rw [v2]; rfl, by omega⟩
  have hd : 0 ≤ (1000 + x) / g := Int.ediv_nonneg (by omega) (by omega)
  have hd2 : (1000 + x) / g ≤ 1000 + x := Int.ediv_le_self g (by omega)
  have gn : ((nN w g : Nat) : Int) * g < w + g := by
    have : g * ((nN w g : Int) - 1) = (nN w g : Int) * g - g := by rw [Int.mul_sub, Int.mul_one, Int.mul_comm]
    omega
  have gn2 : w ≤ (nN w g : Int) * g := by rw [Int.mul_comm]; exact n3
  have f1 : wI ((nN w g : Int) * g) = (nN w g : Int) * g := wrap64_in (by omega) (by omega)
  have f2 : wI ((nN w g : Int) - 1) = (nN w g : Int) - 1 := wrap64_in (by omega) (by omega)
  have f3 : ((nN w g : Int) - 1) * g = (nN w g : Int) * g - g := by rw [Int.sub_mul, Int.one_mul]
  have f4 : wI (((nN w g : Int) - 1) * g) = (nN w g : Int) * g - g := by rw [f3]; exact wrap64_in (by omega) (by omega)
  have f5 : wI ((1000 + x) / g - (nN w g : Int)) = (1000 + x) / g - (nN w g : Int) := wrap64_in (by omega) (by omega)
  have f6 : wI ((1000 + x) / g - (nN w g : Int) + 1) = (1000 + x) / g - (nN w g : Int) + 1 := wrap64_in (by omega) (by omega)
  have gm : -100000 ≤ g * ((1000 + x) / g - (nN w g : Int) + 1) ∧ g * ((1000 + x) / g - (nN w g : Int) + 1) ≤ 100000 := by
    constructor
    · have : g * (-600) ≤ g * ((1000 + x) / g - (nN w g : Int) + 1) := Int.mul_le_mul_of_nonneg_left (by omega) (by omega)
      omega
    · have : g * ((1000 + x) / g - (nN w g : Int) + 1) ≤ g * 1200 := Int.mul_le_mul_of_nonneg_left (by omega) (by omega)
      omega
  have f7 : wI (g * ((1000 + x) / g - (nN w g : Int) + 1)) = g * ((1000 + x) / g - (nN w g : Int) + 1) := wrap64_in (by omega) (by omega)
  have f8 : wI (w - g) = w - g := wrap64_in (by omega) (by omega)
  have f9 : wI (w + g) = w + g := wrap64_in (by omega) (by omega)
  -- (1000 + x) / g + 1 - n against 1000 / g
  have up : ∀ z m : Int, (z + m * g) / g = z / g + m := fun z m => Int.add_mul_ediv_right z m (by omega)
  have held : x ≤ w - g → (1000 + x) / g - nN w g + 1 ≤ 1000 / g := by
    intro hx
    have := up 1000 ((nN w g : Int) - 1)
    have h3 : (1000 + x) / g ≤ (1000 + ((nN w g : Int) - 1) * g) / g := Int.ediv_le_ediv (by omega) (by omega)
    omega
  have gone : w + g ≤ x → 1000 / g < (1000 + x) / g - nN w g + 1 := by
    intro hx
    have := up 1000 (nN w g : Int)
    have h3 : (1000 + (nN w g : Int) * g) / g ≤ (1000 + x) / g := Int.ediv_le_ediv (by omega) (by omega)
    omega
  refine (T.path_eval way ?_).trans ?_
  · refine allSay_append ⟨rfl, by rw [wu, beq_eq_false_iff_ne]; omega, badN_false.2 ⟨g1, gw, by omega⟩, rfl, trivial⟩ (allSay_append c1 (allSay_append ⟨rfl, trivial⟩ (allSay_append ?_ ⟨decide_eq_true (by omega), by rw [beq_eq_false_iff_ne]; omega, trivial⟩)))
    rw [e1]; exact c2
  · refine congrArg (fun b => some (V.s (S.bool b))) ?_
    unfold grV
    rw [e1, dv _ (by omega), show wI ((1000 + x) / g) = (1000 + x) / g from wrap64_in (by omega) (by omega), f5, f6, f7, f8, f9, f1, f2, f4]
    refine anB_t (anB_t (anB_t (anB_t (anB_t (beqI w) (decide_eq_true gn2)) (decide_eq_true (by omega))) ?_) ?_) ?_
    · rcases hK with ⟨k1, k2⟩ | ⟨k1, k2⟩
      · rw [k1, decide_eq_true ((div_le_iff g1).1 k2)]; rfl
      · rw [k1, decide_eq_false (fun h => by have := (div_le_iff g1).2 h; omega)]; rfl
    · by_cases q : w ≤ x
      · rw [decide_eq_true q]; rfl
      · by_cases q2 : w - g < x
        · rw [decide_eq_true q2]; simp
        · have := held (by omega)
          rcases hK with ⟨k1, k2⟩ | ⟨k1, k2⟩
          · rw [k1]; simp
          · omega
    · by_cases q : x < w + g
      · rw [decide_eq_true q]; rfl
      · have := gone (by omega)
        rcases hK with ⟨k1, k2⟩ | ⟨k1, k2⟩
        · omega
        · rw [k1]; simp
theorem grain_walk (a : Int) (_ : (Lit.int .i64 a).wf = true) (b : Int) (_ : (Lit.int .i64 b).wf = true) (c : Int) (_ : (Lit.int .i64 c).wf = true) (w : World) :
    Calls Try.prog 15 #[.int .i64 a, .int .i64 b, .int .i64 c] w fun e w' => e = .returned (.bool true) ∧ Below w.heap.size w w' :=
  law_calls (execS_plain RL_ok mixed Try.func15 (by kernel_rfl) (by kernel_rfl)) (args := [iv a, iv b, iv c]) rfl (grain_run a b c) (.inr rfl) w
end Go.Proofs.Ytheknddbbgjpkaa.Rin
