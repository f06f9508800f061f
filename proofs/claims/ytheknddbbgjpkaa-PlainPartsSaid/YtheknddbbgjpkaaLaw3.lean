/- What laws' frames want beside: slices of rows, opened; calls with them. No program is named here. -/
import Derived.Test.YtheknddbbgjpkaaLaw2
import Derived.Test.YtheknddbbgjpkaaYes
import Derived.Deep.Slices
namespace Go.Proofs.Ytheknddbbgjpkaa.Law
open Go.Joins Go.ChangeShapes Go.WideShapes Go.ChangeAt Go.RowKit Go.Deep Go.Eng
set_option linter.unusedVariables false
theorem rowsV_get {ks : List K} : ∀ {l : List (Row ks)} {j : Nat} {u : Value}, (rowsV ks l)[j]? = some u → ∃ i f x, l[i]? = some x ∧ j = i * ks.length + f ∧ ((Row.cells ks x).map S.den)[f]? = some u
  | [], j, u, h => by simp [rowsV] at h
  | x :: r, j, u, h => by
    have hn : ((Row.cells ks x).map S.den).length = ks.length := by simp [Row.cells_length]
    rw [rowsV_cons] at h
    by_cases hj : j < ks.length
    · rw [List.getElem?_append_left (by omega)] at h
      exact ⟨0, j, x, rfl, by omega, h⟩
    · rw [List.getElem?_append_right (by omega), hn] at h
      obtain ⟨i, f, y, h1, h2, h3⟩ := rowsV_get h
      exact ⟨i + 1, f, y, by simpa using h1, by rw [Nat.add_mul]; omega, h3⟩
section
variable {H : Type} {enc : TypeId × Value → H} {P : Program}
/-- a slice of rows, opened -/
theorem open_rows {ks : List K} {Good : Row ks → Prop} {w : World} {base : Nat} {spare : Nat → Bool} {held : Bool} {r : Reach} {b0 : Nat} {t e : TypeId} {v : Value} {d : DataW H} {p : List MemPlace} (ht : P.underlying t = some (.slice e)) (hc : P.cellsOf e = ks.length)
    (hv : Value.okWide P w r b0 t v) (h : DataW.Trod enc P w base spare held t v d p) (hrow : ∀ fuel cs y, DataW.trod enc P w base spare held fuel e cs = some y → ∃ x : Row ks, cs = (Row.cells ks x).map S.den ∧ Good x) :
    ∃ l : List (Row ks), l.length ≤ maxLen ∧ (∀ x ∈ l, Good x) ∧ holdsP 0 w (.orow e ks l) v := by
  obtain ⟨a, len, cap, rfl⟩ := okWide_slice ht hv
  obtain ⟨fuel, hf⟩ := h
  rcases open_slice ht hf with ⟨hcs, _⟩ | ⟨a', len', cap', m, n, D, Pl, hcs, hb, hl, hm, hmm, hx, hget⟩
  · have : Value.slice a len cap = .slice none 0 0 := by simpa [Value.cells] using hcs
    simp only [Value.slice.injEq] at this
    obtain ⟨rfl, rfl, rfl⟩ := this
    exact ⟨[], Nat.zero_le _, fun x hx => (by cases hx), none, 0, rfl, ⟨Nat.le_refl _, fun _ => rfl⟩, fun j u hj => by simp [rowsV] at hj⟩
  · have : Value.slice a len cap = .slice (some a') len' cap' := by simpa [Value.cells] using hcs
    simp only [Value.slice.injEq] at this
    obtain ⟨rfl, rfl, rfl⟩ := this
    have hlm : len ≤ m := by rw [hmm]; split <;> omega
    have : Inhabited (Row ks) := ⟨Row.dflt ks⟩
    obtain ⟨X, hX⟩ := choose_lt (α := Row ks) (n := len) (p := fun i x => w.cells? base (a'.add (i * ks.length)) ks.length = some ((Row.cells ks x).map S.den) ∧ Good x) (fun i hi => by
      obtain ⟨cs', h1, h2⟩ := hget i (by omega)
      obtain ⟨x, rfl, hg⟩ := hrow _ _ _ h2
      rw [hc] at h1
      exact ⟨x, h1, hg⟩)
    refine ⟨(List.range len).map X, by simp; omega, fun x hx => ?_, some a', cap, by simp, ⟨by simpa using hl, fun h => by cases h⟩, fun j u hj => ⟨a', rfl, ?_⟩⟩
    · obtain ⟨i, hi, rfl⟩ := List.mem_map.1 hx
      exact (hX i (List.mem_range.1 hi)).2
    · obtain ⟨i, f, x, h1, rfl, h3⟩ := rowsV_get hj
      have hi : i < len := by
        have := (List.getElem?_eq_some_iff.1 h1).1
        simpa using this
      have hx : x = X i := by simpa [hi] using h1.symm
      subst hx
      have hcell := (hX i hi).1
      obtain ⟨_, hlen, hall⟩ := World.cells?_some hcell
      have hf : f < ks.length := by
        have := (List.getElem?_eq_some_iff.1 h3).1
        simpa [Row.cells_length] using this
      rw [← Eng.add_add, hall f hf]
      exact h3
/-- of integers -/
theorem open_i64s {w : World} {base : Nat} {spare : Nat → Bool} {held : Bool} {r : Reach} {b0 : Nat} {t e : TypeId} {v : Value} {d : DataW H} {p : List MemPlace} (ht : P.underlying t = some (.slice e)) (he : P.underlying e = some (.int .i64)) (hc : P.cellsOf e = 1)
    (hv : Value.okWide P w r b0 t v) (h : DataW.Trod enc P w base spare held t v d p) :
    ∃ l : List Int, l.length ≤ maxLen ∧ (∀ x ∈ l, (Lit.int .i64 x).wf = true) ∧ holdsP 0 w (.orow e [.int .i64] l) v :=
  open_rows (ks := [.int .i64]) (Good := fun x : Int => (Lit.int .i64 x).wf = true) ht hc hv h fun fuel cs y hy => by
    obtain ⟨n, rfl, _, hw⟩ := DataW.trod_int he hy
    exact ⟨n, rfl, hw⟩
/-- of truths -/
theorem open_bools {w : World} {base : Nat} {spare : Nat → Bool} {held : Bool} {r : Reach} {b0 : Nat} {t e : TypeId} {v : Value} {d : DataW H} {p : List MemPlace} (ht : P.underlying t = some (.slice e)) (he : P.underlying e = some .bool) (hc : P.cellsOf e = 1)
    (hv : Value.okWide P w r b0 t v) (h : DataW.Trod enc P w base spare held t v d p) :
    ∃ l : List Bool, l.length ≤ maxLen ∧ holdsP 0 w (.orow e [.bool] l) v := by
  obtain ⟨l, h1, _, h2⟩ := open_rows (ks := [.bool]) (Good := fun _ : Bool => True) ht hc hv h fun fuel cs y hy => by
    obtain ⟨n, rfl, _⟩ := DataW.trod_bool he hy
    exact ⟨n, rfl, trivial⟩
  exact ⟨l, h1, h2⟩
/-- a law with slices -/
theorem law_rows {f : Nat} {sp : Eng.Spec} (h : SpecOk P f sp) {args : List V} {xs : List Value} (hfl : rowyL args = true) (hv : (sp args).yes) (w : World) (hx : holdsL 0 w args xs) :
    Calls P f xs.toArray w fun e w' => e = .returned (.bool true) ∧ Below w.heap.size w w' := by
  rcases hv with hv | hv
  · refine (h.calls args .tt xs w hfl hv rfl hx).mono fun e w' ⟨x, he, hx, hb⟩ => ⟨?_, hb⟩
    rw [he, (holds_flat rfl).1 hx]; rfl
  · refine (h.calls args (.s (.bool true)) xs w hfl hv rfl hx).mono fun e w' ⟨x, he, hx, hb⟩ => ⟨?_, hb⟩
    rw [he, (holds_flat rfl).1 hx]; rfl
end
end Go.Proofs.Ytheknddbbgjpkaa.Law
