/- What laws' frames want beside: slices of structs of a few integers, opened. No program is named here. -/
import Derived.Test.YtheknddbbgjpkaaLaw3
namespace Go.Proofs.Ytheknddbbgjpkaa.Law
open Go.Joins Go.ChangeShapes Go.WideShapes Go.ChangeAt Go.RowKit Go.Deep Go.Eng
set_option linter.unusedVariables false
section
variable {H : Type} {enc : TypeId × Value → H} {P : Program}
theorem trod_ints {w : World} {base : Nat} {spare : Nat → Bool} {held : Bool} {t : TypeId} {fs : Array Field} {fuel : Nat} {cs : List Value} {y : DataW H × List MemPlace} (hs : P.underlying t = some (.struct fs)) (hone : oneCellFields P fs = true) (hC : P.cellsOf t = fs.size)
    (hi : allI64 P fs = true) (h : DataW.trod enc P w base spare held fuel t cs = some y) :
    ∃ l : List Int, cs = l.map (Value.int .i64) ∧ l.length = fs.size ∧ ∀ n ∈ l, (Lit.int .i64 n).wf = true := by
  obtain ⟨xs, n, _, hx, hsz, hlen, hg⟩ := DataW.trod_struct hs h
  have key : ∀ i, i < fs.size → ∃ m : Int, cs[i]? = some (.int .i64 m) ∧ (Lit.int .i64 m).wf = true := by
    intro i hi'
    have hfi : fs[i]? = some fs[i] := Array.getElem?_eq_getElem hi'
    obtain ⟨ho, hk⟩ := hone_of hone i _ hfi
    have h1 := hg i _ hfi
    rw [ho, hk] at h1
    have hci : i < cs.length := by omega
    have e : (cs.drop i).take 1 = [cs[i]] := (congrArg (List.take 1) (List.drop_eq_getElem_cons hci)).trans rfl
    rw [e] at h1
    have hxi : i < xs.length := by omega
    rw [List.getElem?_eq_getElem hxi] at h1
    obtain ⟨m, hm, _, hw⟩ := DataW.trod_int (allI64_of hi hfi) h1
    refine ⟨m, ?_, hw⟩
    rw [List.getElem?_eq_getElem hci]
    simp only [List.cons.injEq, and_true] at hm
    rw [hm]
  refine ⟨(List.range fs.size).map fun i => match (cs[i]? : Option Value) with | some (.int .i64 m) => m | _ => 0, ?_, by simp, ?_⟩
  · apply List.ext_getElem
    · simp; omega
    · intro i h1 h2
      obtain ⟨m, hm, _⟩ := key i (by omega)
      simp only [List.map_map, List.getElem_map, List.getElem_range, Function.comp, hm]
      rw [List.getElem?_eq_getElem h1] at hm
      exact Option.some.inj hm
  · intro n hn
    simp only [List.mem_map, List.mem_range] at hn
    obtain ⟨i, hi', rfl⟩ := hn
    obtain ⟨m, hm, hw⟩ := key i hi'
    simp only [hm]
    exact hw
/-- of structs of three integers -/
theorem open_row3s {w : World} {base : Nat} {spare : Nat → Bool} {held : Bool} {r : Reach} {b0 : Nat} {t e : TypeId} {fs : Array Field} {v : Value} {d : DataW H} {p : List MemPlace} (ht : P.underlying t = some (.slice e)) (hs : P.underlying e = some (.struct fs)) (hone : oneCellFields P fs = true) (hC : P.cellsOf e = fs.size) (h3 : fs.size = 3) (hi : allI64 P fs = true)
    (hv : Value.okWide P w r b0 t v) (h : DataW.Trod enc P w base spare held t v d p) :
    ∃ l : List (Int × Int × Int), l.length ≤ maxLen ∧ (∀ x ∈ l, (Lit.int .i64 x.1).wf = true ∧ (Lit.int .i64 x.2.1).wf = true ∧ (Lit.int .i64 x.2.2).wf = true) ∧ holdsP 0 w (.orow e [.int .i64, .int .i64, .int .i64] l) v :=
  open_rows (ks := [.int .i64, .int .i64, .int .i64]) (Good := fun x : Int × Int × Int => (Lit.int .i64 x.1).wf = true ∧ (Lit.int .i64 x.2.1).wf = true ∧ (Lit.int .i64 x.2.2).wf = true) ht (by rw [hC, h3]; rfl) hv h fun fuel cs y hy => by
    obtain ⟨l, rfl, hl, hw⟩ := trod_ints hs hone hC hi hy
    rw [h3] at hl
    match l, hl, hw with
    | [a, b, c], _, hw => exact ⟨(a, b, c), rfl, hw a (by simp), hw b (by simp), hw c (by simp)⟩
/-- of structs of two integers -/
theorem open_row2s {w : World} {base : Nat} {spare : Nat → Bool} {held : Bool} {r : Reach} {b0 : Nat} {t e : TypeId} {fs : Array Field} {v : Value} {d : DataW H} {p : List MemPlace} (ht : P.underlying t = some (.slice e)) (hs : P.underlying e = some (.struct fs)) (hone : oneCellFields P fs = true) (hC : P.cellsOf e = fs.size) (h3 : fs.size = 2) (hi : allI64 P fs = true)
    (hv : Value.okWide P w r b0 t v) (h : DataW.Trod enc P w base spare held t v d p) :
    ∃ l : List (Int × Int), l.length ≤ maxLen ∧ (∀ x ∈ l, (Lit.int .i64 x.1).wf = true ∧ (Lit.int .i64 x.2).wf = true) ∧ holdsP 0 w (.orow e [.int .i64, .int .i64] l) v :=
  open_rows (ks := [.int .i64, .int .i64]) (Good := fun x : Int × Int => (Lit.int .i64 x.1).wf = true ∧ (Lit.int .i64 x.2).wf = true) ht (by rw [hC, h3]; rfl) hv h fun fuel cs y hy => by
    obtain ⟨l, rfl, hl, hw⟩ := trod_ints hs hone hC hi hy
    rw [h3] at hl
    match l, hl, hw with
    | [a, b], _, hw => exact ⟨(a, b), rfl, hw a (by simp), hw b (by simp)⟩
end
end Go.Proofs.Ytheknddbbgjpkaa.Law
