/- Layer 3: settings by their parts: what the statements call. -/
import Derived.Test.YtfnadebkobfemaaConf3S
import Derived.Test.YtfnadebkobfemaaEngG
namespace Go.Proofs.Ytfnadebkobfemaa.Conf
open Go.Eng Go.RowKit Mil
set_option linter.unusedVariables false
set_option linter.unusedSimpArgs false
noncomputable def valuesS : Eng.Spec := execS C0 noLoops 43
noncomputable def namesS : Eng.Spec := execS C0 noLoops 45
theorem values_ok : SpecOk Try.prog 43 valuesS := execS_plain C0_ok mixed Try.func43 (by kernel_rfl) (by kernel_rfl)
theorem names_ok : SpecOk Try.prog 45 namesS := execS_plain C0_ok mixed Try.func45 (by kernel_rfl) (by kernel_rfl)
noncomputable def madeS : Eng.Spec := execS C0 noLoops 46
theorem made_ok : SpecOk Try.prog 46 madeS := execS_plain C0_ok mixed Try.func46 (by kernel_rfl) (by kernel_rfl)
noncomputable def C6 : Cfg := ⟨Try.prog, lookG [(47, toldS), (48, wrongS), (49, mayS), (44, dfltS), (43, valuesS), (45, namesS), (46, madeS)], [59], 32⟩
theorem C6_ok : C6.Ok := Cfg.ok ⟨told_ok, wrong_ok, may_ok, dflt_ok, values_ok, names_ok, made_ok, trivial⟩ ⟨⟨by kernel_rfl, by kernel_rfl⟩, trivial⟩
/-- along these choices: what is asked, and what is left -/
def sub {α : Type} : List Bool → T α → Option (List (Bool × Bool) × T α)
  | [], t => some ([], t)
  | b :: r, .ite _ c x y => match sub r (bif b then x else y) with
    | some (l, t) => some ((c, b) :: l, t)
    | none => none
  | _, _ => none
def subT {α : Type} (ch : List Bool) (t : T α) : T α := match sub ch t with
  | some (_, t') => t'
  | none => .fail
def subC {α : Type} (ch : List Bool) (t : T α) : List (Bool × Bool) := match sub ch t with
  | some (l, _) => l
  | none => [(true, false)]
theorem sub_eval {α : Type} : ∀ {ch : List Bool} {t t' : T α} {cs : List (Bool × Bool)}, sub ch t = some (cs, t') → allSay cs → t.eval = t'.eval
  | [], t, t', cs, h, _ => by
    simp only [sub, Option.some.injEq, Prod.mk.injEq] at h
    rw [h.2]
  | b :: r, .ite i c x y, t', cs, h, hs => by
    simp only [sub] at h
    cases hq : sub r (bif b then x else y) with
    | none => rw [hq] at h; cases h
    | some p =>
      rw [hq] at h
      obtain ⟨l, t2⟩ := p
      simp only [Option.some.injEq, Prod.mk.injEq] at h
      obtain ⟨rfl, rfl⟩ := h
      obtain ⟨h1, h2⟩ := hs
      have h1 : c = b := h1
      subst h1
      have := sub_eval hq h2
      rw [← this]
      cases c <;> rfl
  | _ :: _, .ret _, _, _, h, _ => by simp [sub] at h
  | _ :: _, .fail, _, _, h, _ => by simp [sub] at h
theorem subT_eval {α : Type} {ch : List Bool} {t : T α} (h : allSay (subC ch t)) : t.eval = (subT ch t).eval := by
  unfold subC at h
  unfold subT
  cases hs : sub ch t with
  | none => rw [hs] at h; exact absurd h.1 (by simp)
  | some p => rw [hs] at h; exact sub_eval hs h
/-- the k-th of a chain -/
def chainC (k : Nat) : List Bool := List.replicate k false ++ [true]
/-- what is asked on the way to the k-th -/
def chainA (m : Int) : (n j : Nat) → List (Bool × Bool)
  | 0, j => [(decide (m = (j : Int)), true)]
  | n + 1, j => (decide (m = (j : Int)), false) :: chainA m n (j + 1)
theorem chainA_is {m : Int} : ∀ {n j : Nat}, m = ((j + n : Nat) : Int) → allSay (chainA m n j)
  | 0, j, h => ⟨decide_eq_true (by rw [h]; rfl), trivial⟩
  | n + 1, j, h => ⟨decide_eq_false (by rw [h]; omega), chainA_is (by rw [h]; congr 1; omega)⟩
end Go.Proofs.Ytfnadebkobfemaa.Conf
