/- Trees that answer true; numbers in 64 bits. No program is named here. -/
import Derived.Test.YtheknddbbgjpkaaEngB
import Derived.IntWalk
namespace Go.Eng
open Go.RowKit
set_option linter.unusedVariables false

/-- the tree without its truths' names -/
def T.anon {α : Type} : T α → T α
  | .ite _ c x y => .ite none c x.anon y.anon
  | .ret v => .ret v
  | .fail => .fail
theorem T.eval_anon {α : Type} : ∀ t : T α, t.anon.eval = t.eval
  | .ite _ c x y => by
    show (bif c then x.anon.eval else y.anon.eval) = (bif c then x.eval else y.eval)
    rw [T.eval_anon x, T.eval_anon y]
  | .ret _ => rfl
  | .fail => rfl
/-- the tree answers true -/
def T.yes (t : T V) : Prop := t.eval = some .tt ∨ t.eval = some (.s (.bool true))
theorem yes_anon {t : T V} (h : t.anon.yes) : t.yes := by
  unfold T.yes at *; rwa [T.eval_anon] at h
theorem yes_tt : T.yes (.ret .tt) := .inl rfl
theorem yes_ret {b : Bool} (h : b = true) : T.yes (.ret (.s (.bool b))) := by rw [h]; exact .inr rfl
theorem yes_ite {i : Option Nat} {c : Bool} {x y : T V} (h1 : c = true → x.yes) (h2 : c = false → y.yes) : T.yes (.ite i c x y) := by
  cases c
  · exact h2 rfl
  · exact h1 rfl
theorem yes_then {i : Option Nat} {c : Bool} {x y : T V} (hc : c = true) (h : x.yes) : T.yes (.ite i c x y) := by rw [hc]; exact h
theorem yes_else {i : Option Nat} {c : Bool} {x y : T V} (hc : c = false) (h : y.yes) : T.yes (.ite i c x y) := by rw [hc]; exact h
theorem law_yes {P : Program} {f : Nat} {sp : Spec} (h : SpecOk P f sp) {args : List V} (hfl : flatL args = true) (hv : (sp args).yes) (w : World) :
    Calls P f (denL nu0 args).toArray w fun e w' => e = .returned (.bool true) ∧ Below w.heap.size w w' := by
  rcases hv with hv | hv
  · exact law_calls h hfl hv (.inl rfl) w
  · exact law_calls h hfl hv (.inr rfl) w
theorem bif_and (a b : Bool) : (bif a then b else false) = (a && b) := by cases a <;> rfl
theorem bif_or (a b : Bool) : (bif a then true else b) = (a || b) := by cases a <;> rfl
theorem wf64 {n : Int} (h : (Lit.int .i64 n).wf = true) : -9223372036854775808 ≤ n ∧ n ≤ 9223372036854775807 := by
  simpa [Lit.wf, IntKind.min, IntKind.max, IntKind.signed, IntKind.bits] using h
theorem wrap64_in {n : Int} (h1 : -9223372036854775808 ≤ n) (h2 : n ≤ 9223372036854775807) : IntKind.i64.wrap n = n := IntWalk.i64_in n ⟨h1, h2⟩
theorem wrapu64 (n : Int) : IntKind.u64.wrap n = n % 18446744073709551616 := by
  simp [IntKind.wrap, IntKind.signed, IntKind.bits]
/-- a number of m kinds out of any -/
theorem modU {n m : Int} (hm : 0 < m) (h2 : m ≤ 9223372036854775807) : IntKind.i64.wrap (Int.tmod (IntKind.u64.wrap n) m) = (n % 18446744073709551616) % m := by
  rw [wrapu64, Int.tmod_eq_emod_of_nonneg (Int.emod_nonneg _ (by decide))]
  have h3 := Int.emod_nonneg (n % 18446744073709551616) (b := m) (by omega)
  have h4 := Int.emod_lt_of_pos (n % 18446744073709551616) hm
  exact wrap64_in (by omega) (by omega)
theorem modU_range (n : Int) {m : Int} (hm : 0 < m) : 0 ≤ (n % 18446744073709551616) % m ∧ (n % 18446744073709551616) % m < m :=
  ⟨Int.emod_nonneg _ (by omega), Int.emod_lt_of_pos _ hm⟩
end Go.Eng
