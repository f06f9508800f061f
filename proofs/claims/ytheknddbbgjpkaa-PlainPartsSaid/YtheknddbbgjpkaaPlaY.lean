/- Layer 6: PlainParts. -/
import Derived.Test.YtheknddbbgjpkaaPlaX
import Derived.Test.YtheknddbbgjpkaaLaw4
namespace Go.Proofs.Ytheknddbbgjpkaa.Pla
open Go.Eng Go.RowKit Mil Rin
set_option linter.unusedVariables false
set_option linter.unusedSimpArgs false
def pPa (o : List TV) (b : Int) : PPa := ⟨o.length, o, b⟩
def aPa : APa := ⟨0, [], 0, [], 0⟩
noncomputable def eA (o : List TV) (b : Int) : APa := endW (nxtC okPa goPa rdPa FPa muPa (pPa o b)) aPa
noncomputable def lA (o : List TV) (b : Int) : List TV := List.take (eA o b).m (List.drop 0 (eA o b).la)
noncomputable def lB (o : List TV) (b : Int) : List TV := List.take (eA o b).k (List.drop 0 (eA o b).lb)
noncomputable def pPb (o : List TV) (b t : Int) : PPb := ⟨(eA o b).m, (eA o b).la, (eA o b).k, (eA o b).lb, t, Mil.cutV (sv (plV 10 1 t (lA o b))), ((plV 10 1 t (lA o b)).length : Int), Mil.cutV (sv (plV 10 1 t (lB o b))), ((plV 10 1 t (lB o b)).length : Int), newV (lA o b)⟩
def aPb : APb := ⟨0, 0⟩
noncomputable def eB (o : List TV) (b t : Int) : APb := endW (nxtC okPb goPb rdPb FPb muPb (pPb o b t)) aPb
def aC (a b : Bool) : Bool := bif a then b else false
noncomputable def c1Y (o : List TV) (b t : Int) : Bool := aC (aC (Mil.cutV (sv (plV 10 1 t (lA o b))) == Mil.cutV (sv (plV 10 1 t (lB o b)))) (((plV 10 1 t (lA o b)).length : Int) == ((plV 10 1 t (lB o b)).length : Int))) (decide (((plV 10 1 t (lA o b)).length : Int) ≤ (eB o b t).c))
noncomputable def vY (o : List TV) (b t : Int) : Bool := aC (aC (c1Y o b t) (newV (lB o b) == newV (lA o b))) (bif decide (0 < ((eA o b).m : Int)) then true else newV (lA o b) == -1)
theorem wayY0 (o : List TV) (b : Int) : T.path [true] (T.anon (parR o b)) = some ([(decide (30 < (o.length : Int)), true)], .tt) := by kernel_rfl
theorem wayY1 (o : List TV) (b t : Int) (ht : wI (Int.tmod (wU b) 60) = t) : T.path [false, true, false, true, false, true, true, false, true, true, true, true, true, true, true] (T.anon (parR o b)) =
    some ([(decide (30 < (o.length : Int)), false), (invC okPa (pPa o b) aPa, true), ((60 : Int) == 0, false), (decide (0 + (eA o b).m ≤ (eA o b).la.length), true), (badS 10 1 t, false), (pB (okL (lA o b) t), true), (decide (0 + (eA o b).k ≤ (eA o b).lb.length), true), (badS 10 1 t, false), (pB (okL (lB o b) t), true),
      (decide (0 + (eA o b).m ≤ (eA o b).la.length), true), (decide ((lA o b).length ≤ 100000), true), (invC okPb (pPb o b t) aPb, true), (c1Y o b t, true), (decide (0 + (eA o b).k ≤ (eA o b).lb.length), true), (decide ((lB o b).length ≤ 100000), true)], .s (.bool (vY o b t))) := by subst ht; kernel_rfl
theorem par_run (o : List TV) (b : Int) : (parR o b).eval = some .tt ∨ (parR o b).eval = some (.s (.bool true)) := by
  rw [← T.eval_anon (t := parR o b)]
  by_cases hl : 30 < (o.length : Int)
  · exact .inl (T.path_eval (wayY0 o b) ⟨decide_eq_true hl, trivial⟩)
  · refine .inr ?_
    have hT : 0 ≤ wI (Int.tmod (wU b) 60) ∧ wI (Int.tmod (wU b) 60) < 60 := modI b (by omega) (by omega)
    have way := wayY1 o b _ rfl
    revert way hT
    generalize wI (Int.tmod (wU b) 60) = t
    intro hT way
    have a0 : okPa (pPa o b) aPa := ⟨rfl, by show o.length ≤ 30; omega, Int.le_refl _, by show (0 : Int) ≤ (o.length : Int); omega, rfl, rfl, rfl, rfl, (fun x hx => by cases hx), (fun x hx => by cases hx), rfl⟩
    obtain ⟨k1, _⟩ := endC stepPa a0
    have k1 : okPa (pPa o b) (eA o b) := k1
    have hlA : lA o b = (eA o b).la := by unfold lA; rw [List.drop_zero, k1.m, List.take_length]
    have hlB : lB o b = (eA o b).lb := by unfold lB; rw [List.drop_zero, k1.k, List.take_length]
    have h1 := k1.i0
    have h2 : (eA o b).i ≤ (o.length : Int) := k1.i1
    have h3 := k1.la
    have h4 := k1.lb
    have h5 := k1.m
    have h6 := k1.k
    have hg := k1.gd
    have nb := newV_bd (eA o b).la
    have b0 : okPb (pPb o b t) aPb := ⟨h5, by show (eA o b).m ≤ 30; omega, hT.1, by show t ≤ 60; omega, by show -1 ≤ newV (lA o b); rw [hlA]; exact nb.1, by show newV (lA o b) ≤ _; rw [hlA]; exact nb.2, k1.el, Int.le_refl _, by show (0 : Int) ≤ ((eA o b).m : Int); omega, rfl⟩
    obtain ⟨k2, k3⟩ := endC stepPb b0
    have k2 : okPb (pPb o b t) (eB o b t) := k2
    have k3 : goPb (pPb o b t) (eB o b t) = false := k3
    have q1 : (eB o b t).i ≤ ((eA o b).m : Int) := k2.i1
    have q2 : ¬ (eB o b t).i < ((eA o b).m : Int) := of_decide_eq_false k3
    have q3 : (eB o b t).i.toNat = (eA o b).la.length := by omega
    have sc : (eB o b t).c = ((((eA o b).la.take (eB o b t).i.toNat).filter (pw 1 10 t (newV (lA o b)))).length : Int) := k2.c
    rw [q3, List.take_length, hlA] at sc
    have n10 : ((nN 10 1 : Nat) : Int) = 10 := nN_one (by omega)
    have ep : plV 10 1 t (eA o b).la = (eA o b).la.filter (pw 1 10 t (newV (eA o b).la)) := by
      unfold plV; rw [n10, Int.tdiv_one, Int.tdiv_one]
    have eq : plV 10 1 t (eA o b).lb = plV 10 1 t (eA o b).la := by rw [pl_gd, hg]
    have en : newV (eA o b).lb = newV (eA o b).la := by rw [newV_gd, hg]
    have bn : badN 10 1 = false := by kernel_rfl
    have bs : badS 10 1 t = false := by unfold badS; rw [bn]; exact decide_eq_false (by omega)
    have oA : okL (lA o b) t := by
      rw [hlA]; exact ⟨by omega, by omega, fun x hx => by have := k1.el x hx; omega⟩
    have oB : okL (lB o b) t := by
      rw [hlB]; exact ⟨by omega, by omega, fun x hx => by have := k1.eb x hx; omega⟩
    have d1 : decide (0 + (eA o b).m ≤ (eA o b).la.length) = true := decide_eq_true (by omega)
    have d2 : decide (0 + (eA o b).k ≤ (eA o b).lb.length) = true := decide_eq_true (by omega)
    have d3 : decide ((lA o b).length ≤ 100000) = true := decide_eq_true oA.1
    have d4 : decide ((lB o b).length ≤ 100000) = true := decide_eq_true oB.1
    have c1 : c1Y o b t = true := by
      unfold c1Y
      rw [hlA, hlB, eq, beqI, beqI, sc, ep, decide_eq_true (Int.le_refl _)]; rfl
    have vt : vY o b t = true := by
      unfold vY
      rw [c1, hlA, hlB, en, beqI]
      by_cases hm : 0 < ((eA o b).m : Int)
      · rw [decide_eq_true hm]; rfl
      · have : (eA o b).la = [] := List.eq_nil_of_length_eq_zero (by omega)
        rw [decide_eq_false hm, this]; rfl
    refine (T.path_eval way ⟨decide_eq_false hl, invC_is a0, by kernel_rfl, d1, bs, pB_is oA, d2, bs, pB_is oB, d1, d3, invC_is b0, c1, d2, d4, trivial⟩).trans ?_
    rw [vt]
theorem par_walk (o : List TV) (_ : o.length ≤ maxLen) (_ : ∀ x ∈ o, (Lit.int .i64 x.1).wf = true ∧ (Lit.int .i64 x.2).wf = true) (x : Value) (b : Int) (_ : (Lit.int .i64 b).wf = true) (w : World) (hx : holdsP 0 w (.orow 86 [.int .i64, .int .i64] o) x) :
    Calls Try.prog 20 #[x, .int .i64 b] w fun e w' => e = .returned (.bool true) ∧ Below w.heap.size w w' :=
  Law.law_rows (args := [.orow 86 KR2 o, Eng.iv b]) (xs := [x, .int .i64 b]) (execS_loops (Λ := byReg [(rgPa, famPa), (rgPb, famPb)]) P6_ok mixed Try.func20 (by kernel_rfl) (by kernel_rfl) (two_lp (c := lpPa) (c' := lpPb) (by kernel_rfl) rgPa_is rgPb_is (by kernel_rfl) lpPa_ok lpPb_ok)) rfl (par_run o b) w ⟨hx, rfl, trivial⟩
end Go.Proofs.Ytheknddbbgjpkaa.Pla
