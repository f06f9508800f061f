/- Layer 5: RingForgets, RingGrains. -/
import Derived.Test.YtheknddbbgjpkaaRinM
import Derived.Test.YtheknddbbgjpkaaLaw
namespace Go.Proofs.Ytheknddbbgjpkaa.Rin
open Go.Eng Go.RowKit Mil
set_option linter.unusedVariables false
set_option linter.unusedSimpArgs false
noncomputable def fo2 (w x : Int) : RS := ((RS.new w 1).put 100 x).put (wI (100 + w)) 5
noncomputable def fo3 (w x : Int) : RS := (fo2 w x).sum 100
noncomputable def fo4 (w x l : Int) : RS := (fo3 w x).put l 9
noncomputable def fo5 (w x l : Int) : RS := (fo4 w x l).sum (wI (100 + w))
noncomputable def foV (w x l : Int) : Bool := anB (anB (anB (anB (anB (anB (((fo2 w x).sumA 100).s == 0) (((fo2 w x).sumA 100).c == 0)) ((0 : Int) == 0)) (((fo4 w x l).sumA (wI (100 + w))).s == 5)) (((fo4 w x l).sumA (wI (100 + w))).c == 1)) (((fo5 w x l).sumA l).s == 0)) (((fo5 w x l).sumA l).c == 0)
theorem wayForg (a v b w x l : Int) (hw : wI (1 + wI (Int.tmod (IntKind.wrap .u64 a) 60)) = w) (hx : wI (Int.tmod (IntKind.wrap .u64 v) 1000000) = x) (hl : wI (100 - wI (Int.tmod (IntKind.wrap .u64 b) 50)) = l) :
    T.path ([false, false, false] ++ ([true, false, true] ++ ([false] ++ ([true, false, true] ++ ([false] ++ ([true, false, true] ++ ([false] ++ ([true, false, true] ++ ([true, false, true] ++ [true, false, true]))))))))) (T.anon (forgR a v b)) =
    some ([((60 : Int) == 0, false), ((1000000 : Int) == 0, false), (badN w 1, false)] ++ (putC (RS.new w 1) 100 x ++ ([((0 : Int) != 0, false)] ++ (putC ((RS.new w 1).put 100 x) (wI (100 + w)) 5 ++ ([(bif (0 : Int) != 0 then true else (0 : Int) != 0, false)] ++
      (sumC (fo2 w x) 100 ++ ([((50 : Int) == 0, false)] ++ (putC (fo3 w x) l 9 ++ (sumC (fo4 w x l) (wI (100 + w)) ++ sumC (fo5 w x l) l)))))))), .s (.bool (foV w x l))) := by subst hw; subst hx; subst hl; kernel_rfl
theorem wn_one (lo hi b x : Int) : wn lo hi [(b, x)] = if lo ≤ b ∧ b < hi then [(b, x)] else [] := by
  unfold wn
  simp only [List.filter_cons, List.filter_nil]
  by_cases q : lo ≤ b ∧ b < hi
  · rw [if_pos q, if_pos (by simp <;> omega)]
  · rw [if_neg q, if_neg (by simp <;> omega)]
theorem wn_cons (lo hi b x : Int) (r : List Rec) : wn lo hi ((b, x) :: r) = (if lo ≤ b ∧ b < hi then [(b, x)] else []) ++ wn lo hi r := by
  unfold wn
  simp only [List.filter_cons]
  by_cases q : lo ≤ b ∧ b < hi
  · rw [if_pos q, if_pos (by simp <;> omega)]; rfl
  · rw [if_neg q, if_neg (by simp <;> omega)]; rfl
theorem forg_run (a v b : Int) : (forgR a v b).eval = some (.s (.bool true)) := by
  rw [← T.eval_anon (t := forgR a v b)]
  have hA := modI a (show (0 : Int) < 60 by omega) (by omega)
  have hX := modI v (show (0 : Int) < 1000000 by omega) (by omega)
  have hB := modI b (show (0 : Int) < 50 by omega) (by omega)
  generalize hx : IntKind.wrap .i64 (Int.tmod (IntKind.wrap .u64 v) 1000000) = x at *
  generalize hq : IntKind.wrap .i64 (Int.tmod (IntKind.wrap .u64 a) 60) = q at *
  generalize hd : IntKind.wrap .i64 (Int.tmod (IntKind.wrap .u64 b) 50) = d at *
  have hw : wI (1 + q) = 1 + q := wrap64_in (by omega) (by omega)
  have hl : wI (100 - d) = 100 - d := wrap64_in (by omega) (by omega)
  have way := wayForg a v b (1 + q) x (100 - d) (by rw [← hw, ← hq]) hx (by rw [← hl, ← hd])
  generalize hwq : 1 + q = w at *
  have e1 : wI (100 + w) = 100 + w := wrap64_in (by omega) (by omega)
  have hn : ((nN w 1 : Nat) : Int) = w := nN_one (by omega)
  generalize hld : 100 - d = l at *
  obtain ⟨c1, h1⟩ := (HoldsR.new (w := w) (g := 1) (by omega) (by omega) (by omega)).put (t := 100) (v := x) (by omega) (by omega) (by omega) (by omega) (by simp)
  have d1 : ∀ t : Int, Int.tdiv t 1 = t := Int.tdiv_one
  have w1 : ((RS.new w 1).put 100 x).nw = 100 := by show mxR (-1) (Int.tdiv 100 1) = _; rw [d1]; exact mxR_r (by omega)
  rw [putRs_in (by show mxR (-1) (Int.tdiv 100 1) - (nN w 1 : Nat) < Int.tdiv 100 1; rw [d1, mxR_r (by omega)]; omega)] at h1
  obtain ⟨c2, h2⟩ := h1.put (t := 100 + w) (v := 5) (by omega) (by omega) (by omega) (by omega) (by simp)
  have s2 : ((RS.new w 1).put 100 x).put (100 + w) 5 = fo2 w x := by unfold fo2; rw [e1]
  have w2 : (fo2 w x).nw = 100 + w := by rw [← s2]; show mxR ((RS.new w 1).put 100 x).nw (Int.tdiv (100 + w) 1) = _; rw [d1, w1]; exact mxR_r (by omega)
  rw [putRs_in (by rw [w1]; show mxR 100 (Int.tdiv (100 + w) 1) - (nN w 1 : Nat) < Int.tdiv (100 + w) 1; rw [d1, mxR_r (by omega)]; omega), s2] at h2
  have h2 : HoldsR (fo2 w x) [(100, x), (100 + w, 5)] := by
    have := h2
    rw [show Int.tdiv 100 (RS.new w 1).g = 100 from d1 100, show Int.tdiv (100 + w) ((RS.new w 1).put 100 x).g = 100 + w from d1 _] at this
    exact this
  obtain ⟨c3, h3, v3⟩ := h2.sum (t := 100) (by omega) (by omega)
  obtain ⟨c4, h4⟩ := h3.put (t := l) (v := 9) (by omega) (by omega) (by omega) (by omega) (by simp)
  have w4 : (fo4 w x l).nw = 100 + w := by show mxR (fo2 w x).nw (Int.tdiv l 1) = _; rw [d1, w2]; exact mxR_l (by omega)
  rw [putRs_out (by show ¬ mxR (fo2 w x).nw (Int.tdiv l 1) - (nN w 1 : Nat) < Int.tdiv l 1; rw [d1, w2, mxR_l (by omega)]; omega)] at h4
  have h4 : HoldsR (fo4 w x l) [(100, x), (100 + w, 5)] := h4
  obtain ⟨c5, h5, v5⟩ := h4.sum (t := 100 + w) (by omega) (by omega)
  have f5 : (fo4 w x l).sum (100 + w) = fo5 w x l := by unfold fo5; rw [e1]
  rw [f5] at h5
  obtain ⟨c6, h6, v6⟩ := h5.sum (t := l) (by omega) (by omega)
  have w5 : (fo5 w x l).nw = 100 + w := by rw [← f5]; exact w4
  have v3 := smV_s v3
  have v5 := smV_s v5
  have v6 := smV_s v6
  have fr : ∀ t : Int, t ≤ 100 + w → frR (nN w 1) (100 + w) t = 101 := by
    intro t ht
    unfold frR
    rw [mxR_r ht, if_neg (by omega)]; omega
  have z3 : wn (frR (fo2 w x).n (fo2 w x).nw (Int.tdiv 100 (fo2 w x).g)) (Int.tdiv 100 (fo2 w x).g + 1) [(100, x), (100 + w, 5)] = [] := by
    show wn (frR (nN w 1) (fo2 w x).nw (Int.tdiv 100 1)) (Int.tdiv 100 1 + 1) _ = _
    rw [d1, w2, fr 100 (by omega), wn_cons, wn_one, if_neg (by omega), if_neg (by omega)]; rfl
  have z5 : wn (frR (fo4 w x l).n (fo4 w x l).nw (Int.tdiv (100 + w) (fo4 w x l).g)) (Int.tdiv (100 + w) (fo4 w x l).g + 1) [(100, x), (100 + w, 5)] = [(100 + w, 5)] := by
    show wn (frR (nN w 1) (fo4 w x l).nw (Int.tdiv (100 + w) 1)) (Int.tdiv (100 + w) 1 + 1) _ = _
    rw [d1, w4, fr _ (by omega), wn_cons, wn_one, if_neg (by omega), if_pos (by omega)]; rfl
  have z6 : wn (frR (fo5 w x l).n (fo5 w x l).nw (Int.tdiv l (fo5 w x l).g)) (Int.tdiv l (fo5 w x l).g + 1) [(100, x), (100 + w, 5)] = [] := by
    show wn (frR (nN w 1) (fo5 w x l).nw (Int.tdiv l 1)) (Int.tdiv l 1 + 1) _ = _
    rw [d1, w5, fr _ (by omega), wn_cons, wn_one, if_neg (by omega), if_neg (by omega)]; rfl
  rw [z3] at v3
  rw [z5] at v5
  rw [z6] at v6
  refine (T.path_eval way ?_).trans ?_
  · refine allSay_append ⟨rfl, (by kernel_rfl), badN_false.2 ⟨by omega, by omega, by omega⟩, trivial⟩ (allSay_append c1 (allSay_append ⟨rfl, trivial⟩ (allSay_append ?_ (allSay_append ⟨rfl, trivial⟩ (allSay_append c3 (allSay_append ⟨rfl, trivial⟩ (allSay_append c4 (allSay_append ?_ c6))))))))
    · rw [e1]; exact c2
    · rw [e1]; exact c5
  · refine congrArg (fun b => some (V.s (S.bool b))) ?_
    unfold foV
    rw [e1, v3.1, v3.2.1, v5.1, v5.2.1, v6.1, v6.2.1]
    exact anB_t (anB_t (anB_t (anB_t (anB_t (anB_t rfl rfl) rfl) rfl) rfl) rfl) rfl
theorem forg_walk (a : Int) (_ : (Lit.int .i64 a).wf = true) (v : Int) (_ : (Lit.int .i64 v).wf = true) (b : Int) (_ : (Lit.int .i64 b).wf = true) (w : World) :
    Calls Try.prog 14 #[.int .i64 a, .int .i64 v, .int .i64 b] w fun e w' => e = .returned (.bool true) ∧ Below w.heap.size w w' :=
  law_calls (execS_plain RL_ok mixed Try.func14 (by kernel_rfl) (by kernel_rfl)) (args := [iv a, iv v, iv b]) rfl (forg_run a v b) (.inr rfl) w
end Go.Proofs.Ytheknddbbgjpkaa.Rin
