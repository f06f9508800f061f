/- Layer 19: told; what the functions of pick say. -/
import Derived.Test.YtacdadifjgppbaaPicB
namespace Go.Proofs.Ytacdadifjgppbaa.Pic
open Go.Eng Go.RowKit Go.Flt Lod Brk
set_option linter.unusedVariables false
set_option linter.unusedSimpArgs false
noncomputable def leastD : Eng.Spec := execS C1 (rounds C1 6 1) 55
theorem leastD_ok : SpecOk Try.prog 55 leastD := execS_rounds C1_ok mixed 6 1 Try.func55 (by kernel_rfl) (by kernel_rfl)
noncomputable def firstD : Eng.Spec := execS C1 (rounds C1 6 1) 56
theorem firstD_ok : SpecOk Try.prog 56 firstD := execS_rounds C1_ok mixed 6 1 Try.func56 (by kernel_rfl) (by kernel_rfl)
noncomputable def spareD : Eng.Spec := execS C1 (rounds C1 6 1) 57
theorem spareD_ok : SpecOk Try.prog 57 spareD := execS_rounds C1_ok mixed 6 1 Try.func57 (by kernel_rfl) (by kernel_rfl)
noncomputable def C2 : Cfg := ⟨Try.prog, lookG [(55, .val (Spec.plain leastD)), (56, .val (Spec.plain firstD)), (57, .val (Spec.plain spareD))], [], 0⟩
theorem C2_ok : C2.Ok := Cfg.ok ⟨leastD_ok.plain, firstD_ok.plain, spareD_ok.plain, trivial⟩ trivial
theorem told_run : (execS C2 noLoops 54 []).eval = some (.s (.bool true)) := by kernel_rfl
theorem told_ok : SpecOk Try.prog 54 yesD :=
  (execS_plain C2_ok mixed Try.func54 (by kernel_rfl) (by kernel_rfl)).of_den fun args v _ h => by
    unfold yesD at h
    split at h
    · simp only [T.eval, Option.some.injEq] at h
      subst h
      exact ⟨_, told_run, ⟨rfl, rfl⟩, rfl⟩
    · cases h
noncomputable def C3 : Cfg := ⟨Try.prog, lookG [(54, .val yesD), (55, .val leastS), (56, .val firstS), (57, .val spareS), (19, .val ofC), (23, .val busyC), (26, .val lessC)], [], 0⟩
theorem C3_ok : C3.Ok := Cfg.ok ⟨told_ok, leastS_ok, firstS_ok, spareS_ok, ofC_ok, busyC_ok, lessC_ok, trivial⟩ trivial
/-- rows of loads -/
def okL (l : List (Nat × Nat)) : Prop := l.length ≤ 1000 ∧ ∀ j : Int, isW (g1 l j).1 = true ∧ isW (g1 l j).2 = true
theorem okG_of {l : List (Nat × Nat)} (h : okL l) (m : Int) : okG (pA l m) := ⟨rfl, rfl, rfl, h.1, h.2⟩
theorem least_ok {l : List (Nat × Nat)} (h : okL l) (m : Int) : invC okA (pA l m) ⟨-1, 0⟩ = true ∧ best l m l.length (eA l m).b := by
  have h0 : okA (pA l m) ⟨-1, 0⟩ := ⟨okG_of h m, Int.le_refl 0, by show (0 : Int) ≤ (l.length : Int); omega, .inl ⟨rfl, fun j j0 j1 => by dsimp only at j1; omega⟩⟩
  refine ⟨invC_is h0, ?_⟩
  obtain ⟨⟨-, e1, e2, e3⟩, e4⟩ := endC stepA h0
  have e5 : ¬ (eA l m).i < (l.length : Int) := of_decide_eq_false e4
  have e6 : (eA l m).i ≤ (l.length : Int) := e2
  have e7 : best l m (eA l m).i (eA l m).b := e3
  rw [show (eA l m).i = (l.length : Int) by omega] at e7
  exact e7
theorem first_ok {l : List (Nat × Nat)} (h : okL l) (m : Int) : invC okF (pA l m) ⟨0, 0⟩ = true ∧ (∀ j, 0 ≤ j → j < (eF l m).i → ¬ bz l j < m) ∧ 0 ≤ (eF l m).i ∧ (hitF (pA l m) (eF l m) = true → (eF l m).i < l.length ∧ bz l (eF l m).i < m) ∧ (hitF (pA l m) (eF l m) = false → (eF l m).i = l.length) := by
  have h0 : okF (pA l m) ⟨0, 0⟩ := ⟨okG_of h m, Int.le_refl 0, by show (0 : Int) ≤ (l.length : Int); omega, fun j j0 j1 => by dsimp only at j1; omega⟩
  refine ⟨invC_is h0, ?_⟩
  obtain ⟨⟨-, e1, e2, e3⟩, e4⟩ := endC stepF h0
  have e6 : (eF l m).i ≤ (l.length : Int) := e2
  have e5 : goF (pA l m) (eF l m) = false := e4
  refine ⟨e3, e1, fun q => ?_, fun q => ?_⟩
  · unfold hitF at q
    simp only [Bool.and_eq_true, decide_eq_true_eq] at q
    exact q
  · unfold goF at e5
    unfold hitF at q
    cases e : decide ((eF l m).i < (pA l m).c)
    · have : ¬ (eF l m).i < (l.length : Int) := of_decide_eq_false e
      omega
    · rw [e] at e5 q
      simp at e5 q
      omega
theorem spare_ok {l : List (Nat × Nat)} (h : okL l) {m : Int} (hm : 0 ≤ m ∧ m ≤ 1099511627776) : invC okS (pA l m) ⟨0, 0⟩ = true ∧ (eS l m).b = sumR l m l.length := by
  have h0 : okS (pA l m) ⟨0, 0⟩ := ⟨okG_of h m, Int.le_refl 0, by show (0 : Int) ≤ (l.length : Int); omega, hm.1, hm.2, rfl⟩
  refine ⟨invC_is h0, ?_⟩
  obtain ⟨⟨-, e1, e2, -, -, e3⟩, e4⟩ := endC stepS h0
  have e5 : ¬ (eS l m).i < (l.length : Int) := of_decide_eq_false e4
  have e6 : (eS l m).i ≤ (l.length : Int) := e2
  have e7 : (eS l m).b = sumR l m (eS l m).i.toNat := e3
  rw [e7, show (eS l m).i.toNat = l.length by omega]
end Go.Proofs.Ytacdadifjgppbaa.Pic
