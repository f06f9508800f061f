/- Layer 19: PickLeast. -/
import Derived.Test.YtacdadifjgppbaaPicG
import Derived.Test.YtacdadifjgppbaaLaw3
namespace Go.Proofs.Ytacdadifjgppbaa.Pic
open Go.Eng Go.RowKit Go.Flt Lod Brk
set_option linter.unusedVariables false
set_option linter.unusedSimpArgs false
def mM (m : Int) : Int := IntKind.wrap .i64 (Int.tmod (IntKind.wrap .u64 m) 7)
noncomputable def EM (l : List Int) (m : Int) : AN := endW (nxtC okM goM rdM FM muM ⟨l, l.length, mM m⟩) ⟨[], 0, 0⟩
noncomputable def ZM (l : List Int) (m : Int) : List (Nat × Nat) := List.take (EM l m).j (List.drop 0 (EM l m).z)
noncomputable def fM (l : List Int) (m : Int) : Bool → Int
  | true => (eF (ZM l m) (mM m)).i
  | false => -1
noncomputable def qM (l : List Int) (m : Int) (e : Bool) : PQ := ⟨(EM l m).z, (EM l m).j, mM m, (eA (ZM l m) (mM m)).b, fM l m e⟩
noncomputable def EQ (p : PQ) : AQ := endW (nxtC okQ goQ rdQ FQ muQ p) ⟨0, 0⟩
noncomputable def ZQ (p : PQ) : List (Nat × Nat) := List.take p.j (List.drop 0 p.z)
noncomputable def c123 (p : PQ) : Bool := bif bif (eS (ZQ p) (clampL p.m)).b == (EQ p).r then ((EQ p).r == 0) == decide (p.k < 0) else false then decide (p.k < 0) == decide (p.f < 0) else false
noncomputable def gdM (p : PQ) : Bool := c123 p == true && (decide (p.k < 0) == false && (decide (p.k < (p.j : Int)) == true && true))
theorem least_way (l : List Int) (m : Int) (e : Bool) : T.path [false, true, true, true, true, true, e, true, true, true, true, true, true] (execS C3 (byReg mlist) 18 [.orow 3 [.int .i64] l, iv m]) = some
  ([((7 : Int) == 0, false), (invC okM ⟨l, l.length, mM m⟩ ⟨[], 0, 0⟩, true), (decide (0 + (EM l m).j ≤ (EM l m).z.length), true), (invC okA (pA (ZM l m) (mM m)) ⟨-1, 0⟩, true), (decide (0 + (EM l m).j ≤ (EM l m).z.length), true), (invC okF (pA (ZM l m) (mM m)) ⟨0, 0⟩, true), (hitF (pA (ZM l m) (mM m)) (eF (ZM l m) (mM m)), e),
    (invC okQ (qM l m e) ⟨0, 0⟩, true), (decide (0 + (qM l m e).j ≤ (qM l m e).z.length), true), (invC okS (pA (ZQ (qM l m e)) (clampL (qM l m e).m)) ⟨0, 0⟩, true),
    (bif gdM (qM l m e) then idA (qM l m e).z (qM l m e).j (qM l m e).k else true, true), (bif gdM (qM l m e) then ldA (qM l m e).z (qM l m e).k else true, true), (bif gdM (qM l m e) then isW (g1 (qM l m e).z (qM l m e).k).1 else true, true)],
   .s (.bool (bif c123 (qM l m e) then bif decide ((qM l m e).k < 0) then true else bif decide ((qM l m e).k < ((qM l m e).j : Int)) then decide (bz (qM l m e).z (qM l m e).k < (qM l m e).m) else false else false))) := by cases e <;> kernel_rfl
theorem sumR_none {z : List (Nat × Nat)} {m : Int} (h : ∀ j : Int, 0 ≤ j → j < z.length → ¬ bz z j < m) : sumR z m z.length = 0 :=
  sumR_zero (fun j j0 j1 => by have := h j j0 j1; omega) _ (Nat.le_refl _)
theorem pickLeast_walk (l : List Int) (_ : l.length ≤ maxLen) (_ : ∀ x ∈ l, (Lit.int .i64 x).wf = true) (x : Value) (m : Int) (_ : (Lit.int .i64 m).wf = true) (w : World) (hx : holdsP 0 w (.orow 3 [.int .i64] l) x) :
    Calls Try.prog 18 #[x, .int .i64 m] w fun e w' => e = .returned (.bool true) ∧ Below w.heap.size w w' := by
  refine Law.law_rows (args := [.orow 3 [.int .i64] l, iv m]) (xs := [x, .int .i64 m]) (execS_loops (Λ := byReg mlist) C3_ok mixed Try.func18 (by kernel_rfl) (by kernel_rfl) mlps_ok) rfl (.inr ?_) w ⟨hx, rfl, trivial⟩
  have hm : 0 ≤ mM m ∧ mM m ≤ 6 := by
    have h := umod m (m := 7) (by decide)
    unfold mM
    rw [wrap64_in (by omega) (by omega)]; omega
  have o1 : okM ⟨l, l.length, mM m⟩ ⟨[], 0, 0⟩ := ⟨rfl, rfl, rfl, by show (0 : Int) ≤ 30; decide, fun x hx => by cases hx⟩
  have he : okM ⟨l, l.length, mM m⟩ (EM l m) ∧ _ := endC stepM o1
  obtain ⟨⟨-, e4, e5, e6, e7⟩, -⟩ := he
  have hZ : ZM l m = (EM l m).z := by unfold ZM; rw [List.drop_zero, e4, List.take_length]
  have hk : okL (EM l m).z := okL_of (by omega) fun x hx => ⟨(e7 x hx).1, (e7 x hx).2.1⟩
  have h5 : ∀ j : Int, isW (g1 (EM l m).z j).1 = true ∧ isW (g1 (EM l m).z j).2 = true ∧ 0 ≤ bz (EM l m).z j ∧ bz (EM l m).z j ≤ 5 := by
    intro j
    refine ⟨(hk.2 j).1, (hk.2 j).2, ?_⟩
    rcases g1_mem (z := (EM l m).z) (j := j) with q | q
    · exact (e7 _ q).2.2
    · unfold bz; rw [q.1, z0]; decide
  obtain ⟨a1, a2⟩ := least_ok hk (mM m)
  obtain ⟨f1, f2, f3, f4, f5⟩ := first_ok hk (mM m)
  obtain ⟨s1, s2⟩ := spare_ok hk (m := mM m) (by omega)
  have hc : clampL (mM m) = mM m := by unfold clampL; split <;> split <;> omega
  have d1 : decide (0 + (EM l m).j ≤ (EM l m).z.length) = true := decide_eq_true (by omega)
  have hf : firstP (EM l m).z (mM m) (fM l m (hitF (pA (ZM l m) (mM m)) (eF (ZM l m) (mM m)))) := by
    rw [hZ]
    cases q : hitF (pA (EM l m).z (mM m)) (eF (EM l m).z (mM m))
    · have h9 := f5 q
      exact .inl ⟨rfl, fun j j0 j1 => f2 j j0 (by omega)⟩
    · have h9 := f4 q
      refine .inr ?_
      show 0 ≤ (eF (ZM l m) (mM m)).i ∧ (eF (ZM l m) (mM m)).i < _ ∧ bz (EM l m).z (eF (ZM l m) (mM m)).i < _ ∧ ∀ j : Int, 0 ≤ j → j < (eF (ZM l m) (mM m)).i → _
      rw [hZ]
      exact ⟨f3, h9.1, h9.2, f2⟩
  have hw := least_way l m (hitF (pA (ZM l m) (mM m)) (eF (ZM l m) (mM m)))
  generalize he : hitF (pA (ZM l m) (mM m)) (eF (ZM l m) (mM m)) = e at *
  have oq : okQ (qM l m e) ⟨0, 0⟩ := ⟨e4, by show (EM l m).z.length ≤ 30; omega, hm.1, hm.2, h5, by show best (EM l m).z (mM m) (EM l m).z.length (eA (ZM l m) (mM m)).b; rw [hZ]; exact a2, hf, Int.le_refl 0, by show (0 : Int) ≤ ((EM l m).z.length : Int); omega, rfl⟩
  have hq : okQ (qM l m e) (EQ (qM l m e)) ∧ goQ (qM l m e) (EQ (qM l m e)) = false := endC stepQ oq
  have hzq : ZQ (qM l m e) = (EM l m).z := by
    show List.take (EM l m).j (List.drop 0 (EM l m).z) = _
    rw [List.drop_zero, e4, List.take_length]
  obtain ⟨⟨-, -, -, -, -, q6, q7, q8, q9, q10⟩, q11⟩ := hq
  have q12 : ¬ (EQ (qM l m e)).i < ((EM l m).j : Int) := of_decide_eq_false q11
  have q13 : (EQ (qM l m e)).i ≤ ((EM l m).z.length : Int) := q9
  have hr : (EQ (qM l m e)).r = sumR (EM l m).z (mM m) (EM l m).z.length := by
    have : (EQ (qM l m e)).r = sumR (EM l m).z (mM m) (EQ (qM l m e)).i.toNat := q10
    rw [this, show (EQ (qM l m e)).i.toNat = (EM l m).z.length by omega]
  have hs : (eS (ZQ (qM l m e)) (clampL (qM l m e).m)).b = sumR (EM l m).z (mM m) (EM l m).z.length := by
    show (eS (ZQ (qM l m e)) (clampL (mM m))).b = _
    rw [hzq, hc, s2]
  have q6' : best (EM l m).z (mM m) (EM l m).z.length (qM l m e).k := q6
  have q7' : firstP (EM l m).z (mM m) (qM l m e).f := q7
  have c1 : c123 (qM l m e) = true := by
    unfold c123
    rw [hs, hr]
    rcases q6' with u | u <;> rcases q7' with v | v
    · rw [u.1, v.1, sumR_none u.2]; simp
    · exact absurd v.2.2.1 (u.2 _ v.1 v.2.1)
    · exact absurd u.2.2.1 (v.2 _ u.1 u.2.1)
    · have hp := sumR_pos (z := (EM l m).z) hm.1 (fun j => (h5 j).2.2.1) (qM l m e).k.toNat (by rw [show (((qM l m e).k.toNat : Nat) : Int) = (qM l m e).k by omega]; exact u.2.2.1) (EM l m).z.length (by omega)
      rw [decide_eq_false (show ¬ (qM l m e).k < 0 by omega), decide_eq_false (show ¬ (qM l m e).f < 0 by omega)]
      rw [show (sumR (EM l m).z (mM m) (EM l m).z.length == 0) = false by rw [beq_eq_false_iff_ne]; omega]
      simp
  have t1 : ∀ c b : Bool, (c = true → b = true) → (bif c then b else true) = true := by intro c b e; cases c; rfl; exact e rfl
  have hg : gdM (qM l m e) = true → 0 ≤ (qM l m e).k ∧ (qM l m e).k < ((EM l m).j : Int) := by
    intro h
    unfold gdM at h
    simp at h
    have h1 := h.2.1
    have h2 : (qM l m e).k < ((qM l m e).j : Int) := h.2.2
    exact ⟨by omega, h2⟩
  refine (T.path_eval hw ⟨rfl, invC_is o1, d1, by rw [hZ]; exact a1, d1, by rw [hZ]; exact f1, rfl, invC_is oq, d1, by rw [hzq]; show invC okS (pA (EM l m).z (clampL (mM m))) ⟨0, 0⟩ = true; rw [hc]; exact s1, t1 _ _ fun h => ?_, t1 _ _ fun h => ?_, t1 _ _ fun h => (h5 _).1, trivial⟩).trans ?_
  · exact (idA_is (g := (EM l m).z) (k := (EM l m).j) (i := (qM l m e).k) e4 (hg h).1 (hg h).2).1
  · exact (idA_is (g := (EM l m).z) (k := (EM l m).j) (i := (qM l m e).k) e4 (hg h).1 (hg h).2).2
  · rw [c1]
    rcases q6' with u | u
    · rw [u.1]; rfl
    · have u2 : bz (qM l m e).z (qM l m e).k < (qM l m e).m := u.2.2.1
      have u3 : (qM l m e).k < ((qM l m e).j : Int) := by show _ < ((EM l m).j : Int); omega
      rw [decide_eq_false (show ¬ (qM l m e).k < 0 by omega), decide_eq_true u3, decide_eq_true u2]; rfl
end Go.Proofs.Ytacdadifjgppbaa.Pic
