/- Layer 5: RingLate. -/
import Derived.Test.YtheknddbbgjpkaaRinM
import Derived.Test.YtheknddbbgjpkaaLaw
namespace Go.Proofs.Ytheknddbbgjpkaa.Rin
open Go.Eng Go.RowKit Mil
set_option linter.unusedVariables false
set_option linter.unusedSimpArgs false
noncomputable def la2 (w k x : Int) : RS := ((RS.new w 1).put 500 1).put (wI (500 - k)) x
noncomputable def la3 (w k x : Int) : RS := (la2 w k x).sum 500
noncomputable def la4 (w k x : Int) : RS := (la3 w k x).sum (wI (wI (500 - k) + w))
noncomputable def laV (w k x t : Int) : Bool := anB (anB (anB (anB (anB (((la2 w k x).sumA 500).s == wI (1 + x)) (((la2 w k x).sumA 500).c == 2)) (((la3 w k x).sumA (wI (wI (500 - k) + w))).c == t)) (((la3 w k x).sumA (wI (wI (500 - k) + w))).s == t)) (((la4 w k x).sumA (wI (wI (wI (500 - k) + w) - 1))).c == 2)) (((la4 w k x).sumA (wI (wI (wI (500 - k) + w) - 1))).s == wI (1 + x))
theorem wayLate (a b v w k x : Int) (hw : wI (2 + wI (Int.tmod (IntKind.wrap .u64 a) 59)) = w) (hk : wI (Int.tmod (IntKind.wrap .u64 b) (IntKind.wrap .u64 w)) = k) (hx : wI (Int.tmod (IntKind.wrap .u64 v) 1000000) = x) (e : Bool) :
    T.path ([false, false, false, false] ++ ([true, false, true] ++ ([false] ++ ([true, false, true] ++ ([false] ++ ([true, false, true] ++ ([true, false, true] ++ ([true, false, true] ++ [e])))))))) (T.anon (lateR a b v)) =
    some ([((59 : Int) == 0, false), (badN w 1, false), (IntKind.wrap .u64 w == 0, false), ((1000000 : Int) == 0, false)] ++ (putC (RS.new w 1) 500 1 ++ ([((0 : Int) != 0, false)] ++ (putC ((RS.new w 1).put 500 1) (wI (500 - k)) x ++ ([(bif (0 : Int) != 0 then true else (0 : Int) != 0, false)] ++
      (sumC (la2 w k x) 500 ++ (sumC (la3 w k x) (wI (wI (500 - k) + w)) ++ (sumC (la4 w k x) (wI (wI (wI (500 - k) + w) - 1)) ++ [(k == 0, e)]))))))), .s (.bool (laV w k x (if e then 0 else 1)))) := by subst hw; subst hk; subst hx; cases e <;> kernel_rfl
theorem late_run (a b v : Int) : (lateR a b v).eval = some (.s (.bool true)) := by
  rw [← T.eval_anon (t := lateR a b v)]
  have hA := modU_range a (show (0 : Int) < 59 by omega)
  have hX := modU_range v (show (0 : Int) < 1000000 by omega)
  have eA := modU (n := a) (show (0 : Int) < 59 by omega) (by omega)
  have eX := modU (n := v) (show (0 : Int) < 1000000 by omega) (by omega)
  generalize hx : IntKind.wrap .i64 (Int.tmod (IntKind.wrap .u64 v) 1000000) = x at *
  generalize hq : IntKind.wrap .i64 (Int.tmod (IntKind.wrap .u64 a) 59) = q at *
  generalize hw : IntKind.wrap .i64 (2 + q) = w
  have hw' : w = 2 + q := by rw [← hw]; exact wrap64_in (by omega) (by omega)
  have wu : IntKind.wrap .u64 w = w := by rw [wrapu64]; omega
  have hK := modU_range b (show (0 : Int) < w by omega)
  have eK := modU (n := b) (show (0 : Int) < w by omega) (by omega)
  generalize hk : IntKind.wrap .i64 (Int.tmod (IntKind.wrap .u64 b) w) = k at *
  have way := wayLate a b v w k x (by rw [← hw, ← hq]) (by rw [wu]; exact hk) hx (k == 0)
  have hk0 : 0 ≤ k ∧ k < w := by omega
  have hx0 : 0 ≤ x ∧ x < 1000000 := by omega
  have e1 : wI (500 - k) = 500 - k := wrap64_in (by omega) (by omega)
  have e2 : wI (500 - k + w) = 500 - k + w := wrap64_in (by omega) (by omega)
  have e3 : wI (500 - k + w - 1) = 500 - k + w - 1 := wrap64_in (by omega) (by omega)
  have e4 : wI (1 + x) = 1 + x := wrap64_in (by omega) (by omega)
  have hn : ((nN w 1 : Nat) : Int) = w := nN_one (by omega)
  obtain ⟨c1, h1⟩ := (HoldsR.new (w := w) (g := 1) (by omega) (by omega) (by omega)).put (t := 500) (v := 1) (by omega) (by omega) (by omega) (by omega) (by simp)
  have r1 : putRs (RS.new w 1).n (RS.new w 1).nw (Int.tdiv 500 (RS.new w 1).g) 1 [] = [(500, 1)] := by
    show (bif decide (mxR (-1) 500 - (nN w 1 : Nat) < 500) then _ else _) = _
    rw [show mxR (-1) 500 = 500 from rfl, decide_eq_true (show (500 : Int) - (nN w 1 : Nat) < 500 by omega)]; rfl
  rw [r1] at h1
  obtain ⟨c2, h2⟩ := h1.put (t := 500 - k) (v := x) (by omega) (by omega) (by omega) (by omega) (by simp)
  have r2 : putRs ((RS.new w 1).put 500 1).n ((RS.new w 1).put 500 1).nw (Int.tdiv (500 - k) ((RS.new w 1).put 500 1).g) x [(500, 1)] = [(500, 1), (500 - k, x)] := by
    show (bif decide (mxR 500 (Int.tdiv (500 - k) 1) - (nN w 1 : Nat) < Int.tdiv (500 - k) 1) then [(500, 1)] ++ [(Int.tdiv (500 - k) 1, x)] else _) = _
    rw [Int.tdiv_one, show mxR 500 (500 - k) = 500 by unfold mxR; split <;> omega, decide_eq_true (show (500 : Int) - (nN w 1 : Nat) < 500 - k by omega)]; rfl
  rw [r2] at h2
  have s2 : ((RS.new w 1).put 500 1).put (500 - k) x = la2 w k x := by unfold la2; rw [e1]
  rw [s2] at h2
  have nw2 : (la2 w k x).nw = 500 := by
    rw [← s2]
    show mxR 500 (Int.tdiv (500 - k) 1) = 500
    rw [Int.tdiv_one]; unfold mxR; split <;> omega
  have n2 : ((la2 w k x).n : Int) = w := hn
  obtain ⟨c3, h3, v3⟩ := h2.sum (t := 500) (by omega) (by omega)
  obtain ⟨c4, h4, v4⟩ := h3.sum (t := 500 - k + w) (by omega) (by omega)
  obtain ⟨c5, h5, v5⟩ := h4.sum (t := 500 - k + w - 1) (by omega) (by omega)
  have v3 : (((la2 w k x).sumA 500).s, ((la2 w k x).sumA 500).c, ((la2 w k x).sumA 500).k) = smV (frR (la2 w k x).n (la2 w k x).nw (Int.tdiv 500 1)) (Int.tdiv 500 1 + 1) [(500, 1), (500 - k, x)] := v3
  have v4 : (((la3 w k x).sumA (500 - k + w)).s, ((la3 w k x).sumA (500 - k + w)).c, ((la3 w k x).sumA (500 - k + w)).k) = smV (frR (la2 w k x).n (la2 w k x).nw (Int.tdiv (500 - k + w) 1)) (Int.tdiv (500 - k + w) 1 + 1) [(500, 1), (500 - k, x)] := v4
  have f4 : ((la2 w k x).sum 500).sum (500 - k + w) = la4 w k x := by unfold la4 la3; rw [e1, e2]
  rw [f4] at c5 v5
  have v5 : (((la4 w k x).sumA (500 - k + w - 1)).s, ((la4 w k x).sumA (500 - k + w - 1)).c, ((la4 w k x).sumA (500 - k + w - 1)).k) = smV (frR (la2 w k x).n (la2 w k x).nw (Int.tdiv (500 - k + w - 1) 1)) (Int.tdiv (500 - k + w - 1) 1 + 1) [(500, 1), (500 - k, x)] := v5
  rw [Int.tdiv_one, nw2] at v3 v4 v5
  have both : ∀ lo hi : Int, lo ≤ 500 - k → 500 < hi → smV lo hi [(500, 1), (500 - k, x)] = (1 + x, 2, decide (tpI < 1 + x)) := by
    intro lo hi q1 q2
    have e : wn lo hi [((500 : Int), (1 : Int)), (500 - k, x)] = [(500, 1), (500 - k, x)] := by
      unfold wn
      simp only [List.filter_cons, List.filter_nil]
      rw [if_pos (by simp <;> omega), if_pos (by simp <;> omega)]
    unfold smV
    rw [e, show sv [((500 : Int), (1 : Int)), (500 - k, x)] = 1 + x by simp [sv], cut_small (by omega) (by omega)]; rfl
  have fr : ∀ t : Int, 500 ≤ t → frR (la2 w k x).n 500 t = if 0 > t - w + 1 then 0 else t - w + 1 := by
    intro t ht
    unfold frR
    rw [n2, show mxR t 500 = t by unfold mxR; split <;> omega]
  rw [fr 500 (by omega), both _ _ (by split <;> omega) (by omega)] at v3
  rw [fr _ (by omega), both _ _ (by split <;> omega) (by omega)] at v5
  rw [fr _ (by omega), show (if 0 > 500 - k + w - w + 1 then 0 else 500 - k + w - w + 1) = 501 - k by rw [if_neg (by omega)]; omega] at v4
  have v4' : smV (501 - k) (500 - k + w + 1) [(500, 1), (500 - k, x)] = ((if k == 0 then 0 else 1 : Int), (if k == 0 then 0 else 1 : Int), false) := by
    cases hk0 : k == 0 with
    | true =>
      have hk0 : k = 0 := by simpa using hk0
      have e : wn (501 - k) (500 - k + w + 1) [((500 : Int), (1 : Int)), (500 - k, x)] = [] := by
        unfold wn
        simp only [List.filter_cons, List.filter_nil]
        rw [if_neg (by simp <;> omega), if_neg (by simp <;> omega)]
      unfold smV
      rw [e]; rfl
    | false =>
      have hk0 : k ≠ 0 := by simpa using hk0
      have e : wn (501 - k) (500 - k + w + 1) [((500 : Int), (1 : Int)), (500 - k, x)] = [(500, 1)] := by
        unfold wn
        simp only [List.filter_cons, List.filter_nil]
        rw [if_pos (by simp <;> omega), if_neg (by simp <;> omega)]
      unfold smV
      rw [e]; rfl
  rw [v4'] at v4
  refine (T.path_eval way ?_).trans ?_
  · refine allSay_append ⟨rfl, badN_false.2 ⟨by omega, by omega, by omega⟩, by rw [wu, beq_eq_false_iff_ne]; omega, (by kernel_rfl), trivial⟩ (allSay_append c1 (allSay_append ⟨rfl, trivial⟩ (allSay_append ?_ (allSay_append ⟨rfl, trivial⟩ (allSay_append c3 (allSay_append ?_ (allSay_append ?_ ⟨rfl, trivial⟩)))))))
    · rw [e1]; exact c2
    · rw [e1, e2]; exact c4
    · rw [e1, e2, e3]; exact c5
  · refine congrArg (fun b => some (V.s (S.bool b))) ?_
    unfold laV
    rw [e1, e2, e3, e4]
    have q := fun {α β γ : Type} {a a' : α} {b b' : β} {c c' : γ} (h : (a, b, c) = (a', b', c')) => And.intro (congrArg Prod.fst h) (congrArg (fun x => x.2.1) h)
    obtain ⟨x1, x2⟩ := q v3
    obtain ⟨y1, y2⟩ := q v4
    obtain ⟨z1, z2⟩ := q v5
    simp only at x1 x2 y1 y2 z1 z2
    rw [x1, x2, y1, y2, z1, z2]
    have b : ∀ z : Int, (z == z) = true := fun z => by simp
    exact (anB_t (anB_t (anB_t (anB_t (anB_t (b _) (b _)) (b _)) (b _)) (b _)) (b _))
theorem late_walk (a : Int) (_ : (Lit.int .i64 a).wf = true) (b : Int) (_ : (Lit.int .i64 b).wf = true) (v : Int) (_ : (Lit.int .i64 v).wf = true) (w : World) :
    Calls Try.prog 9 #[.int .i64 a, .int .i64 b, .int .i64 v] w fun e w' => e = .returned (.bool true) ∧ Below w.heap.size w w' :=
  law_calls (execS_plain RL_ok mixed Try.func9 (by kernel_rfl) (by kernel_rfl)) (args := [iv a, iv b, iv v]) rfl (late_run a b v) (.inr rfl) w
end Go.Proofs.Ytheknddbbgjpkaa.Rin
