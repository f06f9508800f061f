/- Layer 19: PickNone. -/
import Derived.Test.YtacdadifjgppbaaPicD
import Derived.Test.YtacdadifjgppbaaLaw3
namespace Go.Proofs.Ytacdadifjgppbaa.Pic
open Go.Eng Go.RowKit Go.Flt Lod Brk
set_option linter.unusedVariables false
set_option linter.unusedSimpArgs false
def mN (m : Int) : Int := IntKind.wrap .i64 (Int.tmod (IntKind.wrap .u64 m) 51)
noncomputable def EN (l : List Int) (m : Int) : AN := endW (nxtC okN goN rdN FN muN ⟨l, l.length, mN m⟩) ⟨[], 0, 0⟩
noncomputable def ZN (l : List Int) (m : Int) : List (Nat × Nat) := List.take (EN l m).j (List.drop 0 (EN l m).z)
def spB (Z : List (Nat × Nat)) (b s : Int) : Bool := bif bif b == -1 then (-1 : Int) == -1 else false then s == 0 else false
theorem none_way (l : List Int) (m : Int) : T.path [false, true, true, true, true, true, true, false, true, true, true, true, true, true] (execS C3 (byReg nlist) 16 [.orow 3 [.int .i64] l, iv m]) = some ([((51 : Int) == 0, false), (invC okN ⟨l, l.length, mN m⟩ ⟨[], 0, 0⟩, true), (decide (0 + (EN l m).j ≤ (EN l m).z.length), true), (invC okA (pA (ZN l m) (mN m)) ⟨-1, 0⟩, true), ((eA (ZN l m) (mN m)).b == -1, true), (decide (0 + (EN l m).j ≤ (EN l m).z.length), true), (invC okF (pA (ZN l m) (mN m)) ⟨0, 0⟩, true), (hitF (pA (ZN l m) (mN m)) (eF (ZN l m) (mN m)), false), (bif (eA (ZN l m) (mN m)).b == -1 then (-1 : Int) == -1 else false, true),
   (decide (0 + (EN l m).j ≤ (EN l m).z.length), true), (invC okS (pA (ZN l m) (clampL (mN m))) ⟨0, 0⟩, true), ((spB (ZN l m) (eA (ZN l m) (mN m)).b (eS (ZN l m) (clampL (mN m))).b) == true && ((((EN l m).j : Int) == 0) == false && true), true), (decide (0 + (EN l m).j ≤ (EN l m).z.length), true), (invC okA (pA (ZN l m) 100) ⟨-1, 0⟩, true)],
   .s (.bool (bif spB (ZN l m) (eA (ZN l m) (mN m)).b (eS (ZN l m) (clampL (mN m))).b then bif ((EN l m).j : Int) == 0 then true else decide (0 ≤ (eA (ZN l m) 100).b) else false))) := by kernel_rfl
theorem none_way2 (l : List Int) (m : Int) : T.path [false, true, true, true, true, true, true, false, true, true, true, false, false, true, true] (execS C3 (byReg nlist) 16 [.orow 3 [.int .i64] l, iv m]) = some ([((51 : Int) == 0, false), (invC okN ⟨l, l.length, mN m⟩ ⟨[], 0, 0⟩, true), (decide (0 + (EN l m).j ≤ (EN l m).z.length), true), (invC okA (pA (ZN l m) (mN m)) ⟨-1, 0⟩, true), ((eA (ZN l m) (mN m)).b == -1, true), (decide (0 + (EN l m).j ≤ (EN l m).z.length), true), (invC okF (pA (ZN l m) (mN m)) ⟨0, 0⟩, true), (hitF (pA (ZN l m) (mN m)) (eF (ZN l m) (mN m)), false), (bif (eA (ZN l m) (mN m)).b == -1 then (-1 : Int) == -1 else false, true),
   (decide (0 + (EN l m).j ≤ (EN l m).z.length), true), (invC okS (pA (ZN l m) (clampL (mN m))) ⟨0, 0⟩, true), ((spB (ZN l m) (eA (ZN l m) (mN m)).b (eS (ZN l m) (clampL (mN m))).b) == true && ((((EN l m).j : Int) == 0) == false && true), false), ((spB (ZN l m) (eA (ZN l m) (mN m)).b (eS (ZN l m) (clampL (mN m))).b) == true && ((((EN l m).j : Int) == 0) == false && true), false),
   (spB (ZN l m) (eA (ZN l m) (mN m)).b (eS (ZN l m) (clampL (mN m))).b, true), (((EN l m).j : Int) == 0, true)],
   .s (.bool (bif spB (ZN l m) (eA (ZN l m) (mN m)).b (eS (ZN l m) (clampL (mN m))).b then true else false))) := by kernel_rfl
theorem g1_mem {z : List (Nat × Nat)} {j : Int} : g1 z j ∈ z ∨ (g1 z j = (0, 0) ∧ ¬ (j.toNat < z.length)) := by
  unfold g1
  rw [Nat.zero_add]
  by_cases h : j.toNat < z.length
  · left
    rw [List.getD_eq_getElem?_getD, List.getElem?_eq_getElem h]
    exact List.getElem_mem h
  · right
    rw [List.getD_eq_getElem?_getD, List.getElem?_eq_none (by omega)]
    exact ⟨rfl, h⟩
theorem z0 : valW 0 = 0 := by have := valW_fI (n := 0) (by decide); exact this
theorem isz : isW 0 = true := isW_fI (n := 0) (by decide)
theorem okL_of {z : List (Nat × Nat)} (hl : z.length ≤ 1000) (h : ∀ x ∈ z, isW x.1 = true ∧ isW x.2 = true) : okL z := by
  refine ⟨hl, fun j => ?_⟩
  rcases g1_mem (z := z) (j := j) with q | q
  · exact h _ q
  · rw [q.1]; exact ⟨isz, isz⟩
theorem sumR_zero {z : List (Nat × Nat)} {m : Int} (h : ∀ j : Int, 0 ≤ j → j < z.length → m ≤ bz z j) : ∀ n : Nat, n ≤ z.length → sumR z m n = 0
  | 0, _ => rfl
  | n + 1, hn => by
    show sumR z m n + room m (bz z n) = 0
    rw [sumR_zero h n (by omega)]
    have := h n (by omega) (by omega)
    unfold room; split <;> omega
theorem pickNone_walk (l : List Int) (_ : l.length ≤ maxLen) (_ : ∀ x ∈ l, (Lit.int .i64 x).wf = true) (x : Value) (m : Int) (_ : (Lit.int .i64 m).wf = true) (w : World) (hx : holdsP 0 w (.orow 3 [.int .i64] l) x) :
    Calls Try.prog 16 #[x, .int .i64 m] w fun e w' => e = .returned (.bool true) ∧ Below w.heap.size w w' := by
  refine Law.law_rows (args := [.orow 3 [.int .i64] l, iv m]) (xs := [x, .int .i64 m]) (execS_loops (Λ := byReg nlist) C3_ok mixed Try.func16 (by kernel_rfl) (by kernel_rfl) (one_lp (c := ln1) (by kernel_rfl) nreg lpN_ok)) rfl (.inr ?_) w ⟨hx, rfl, trivial⟩
  have hm : 0 ≤ mN m ∧ mN m ≤ 50 := by
    have h := umod m (m := 51) (by decide)
    unfold mN
    rw [wrap64_in (by omega) (by omega)]; omega
  have o1 : okN ⟨l, l.length, mN m⟩ ⟨[], 0, 0⟩ := ⟨rfl, hm.1, hm.2, rfl, rfl, by show (0 : Int) ≤ 20; decide, fun x hx => by cases hx⟩
  have w1 := none_way l m
  have w2 := none_way2 l m
  have he : okN ⟨l, l.length, mN m⟩ (EN l m) ∧ _ := endC stepN o1
  have hZ : ZN l m = List.take (EN l m).j (List.drop 0 (EN l m).z) := rfl
  obtain ⟨⟨-, -, -, e4, e5, e6, e7⟩, -⟩ := he
  rw [List.drop_zero, e4, List.take_length] at hZ
  generalize ZN l m = Z at *
  have i1 := invC_is o1
  generalize EN l m = E at *
  generalize mN m = M at *
  subst hZ
  have hk : okL E.z := okL_of (by omega) fun x hx => ⟨(e7 x hx).1, (e7 x hx).2.1⟩
  have hb : ∀ j : Int, 0 ≤ j → j < E.z.length → M ≤ bz E.z j ∧ bz E.z j ≤ M + 8 := by
    intro j j0 j1
    rcases g1_mem (z := E.z) (j := j) with q | q
    · exact (e7 _ q).2.2
    · omega
  obtain ⟨a1, a2⟩ := least_ok hk M
  obtain ⟨f1, f2, f3, f4, f5⟩ := first_ok hk M
  have hc : clampL M = M := by unfold clampL; split <;> split <;> omega
  obtain ⟨s1, s2⟩ := spare_ok hk (m := M) (by omega)
  obtain ⟨b1, b2⟩ := least_ok hk 100
  rw [hc] at w1 w2
  rw [sumR_zero (fun j j0 j1 => (hb j j0 j1).1) _ (Nat.le_refl _)] at s2
  have hA : (eA E.z M).b = -1 := by
    rcases a2 with q | q
    · exact q.1
    · have := hb _ q.1 q.2.1; omega
  have hF : hitF (pA E.z M) (eF E.z M) = false := by
    cases q : hitF (pA E.z M) (eF E.z M)
    · rfl
    · have h1 := f4 q
      have h2 := hb _ f3 h1.1
      omega
  have hsp : spB E.z (-1) 0 = true := rfl
  rw [hA, s2, hsp] at w1 w2
  have d1 : decide (0 + E.j ≤ E.z.length) = true := decide_eq_true (by omega)
  by_cases q : (E.j : Int) = 0
  · have q1 : ((E.j : Int) == 0) = true := by rw [q]; rfl
    exact (T.path_eval w2 ⟨rfl, i1, d1, a1, rfl, d1, f1, hF, rfl, d1, s1, by rw [q1]; rfl, by rw [q1]; rfl, rfl, q1, trivial⟩).trans rfl
  · have q1 : ((E.j : Int) == 0) = false := by rw [beq_eq_false_iff_ne]; exact q
    have h9 : 0 ≤ (eA E.z 100).b := by
      rcases b2 with q2 | q2
      · have h1 := hb 0 (Int.le_refl 0) (by omega)
        have h2 := q2.2 0 (Int.le_refl 0) (by omega)
        omega
      · exact q2.1
    refine (T.path_eval w1 ⟨rfl, i1, d1, a1, rfl, d1, f1, hF, rfl, d1, s1, by rw [q1]; rfl, d1, b1, trivial⟩).trans ?_
    rw [q1, decide_eq_true h9]; rfl
end Go.Proofs.Ytacdadifjgppbaa.Pic
