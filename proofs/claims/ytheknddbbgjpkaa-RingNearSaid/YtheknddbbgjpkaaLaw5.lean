/- What laws' frames want beside: slices of structs of four and five integers, opened. No program is named here. -/
import Derived.Test.YtheknddbbgjpkaaLaw4
namespace Go.Proofs.Ytheknddbbgjpkaa.Law
open Go.Joins Go.ChangeShapes Go.WideShapes Go.ChangeAt Go.RowKit Go.Deep Go.Eng
set_option linter.unusedVariables false
section
variable {H : Type} {enc : TypeId × Value → H} {P : Program}
/-- of structs of five integers -/
theorem open_row5s {w : World} {base : Nat} {spare : Nat → Bool} {held : Bool} {r : Reach} {b0 : Nat} {t e : TypeId} {fs : Array Field} {v : Value} {d : DataW H} {p : List MemPlace} (ht : P.underlying t = some (.slice e)) (hs : P.underlying e = some (.struct fs)) (hone : oneCellFields P fs = true) (hC : P.cellsOf e = fs.size) (h3 : fs.size = 5) (hi : allI64 P fs = true)
    (hv : Value.okWide P w r b0 t v) (h : DataW.Trod enc P w base spare held t v d p) :
    ∃ l : List (Int × Int × Int × Int × Int), l.length ≤ maxLen ∧ (∀ x ∈ l, (Lit.int .i64 x.1).wf = true ∧ (Lit.int .i64 x.2.1).wf = true ∧ (Lit.int .i64 x.2.2.1).wf = true ∧ (Lit.int .i64 x.2.2.2.1).wf = true ∧ (Lit.int .i64 x.2.2.2.2).wf = true) ∧ holdsP 0 w (.orow e [.int .i64, .int .i64, .int .i64, .int .i64, .int .i64] l) v :=
  open_rows (ks := [.int .i64, .int .i64, .int .i64, .int .i64, .int .i64]) (Good := fun x : Int × Int × Int × Int × Int => (Lit.int .i64 x.1).wf = true ∧ (Lit.int .i64 x.2.1).wf = true ∧ (Lit.int .i64 x.2.2.1).wf = true ∧ (Lit.int .i64 x.2.2.2.1).wf = true ∧ (Lit.int .i64 x.2.2.2.2).wf = true) ht (by rw [hC, h3]; rfl) hv h fun fuel cs y hy => by
    obtain ⟨l, rfl, hl, hw⟩ := trod_ints hs hone hC hi hy
    rw [h3] at hl
    match l, hl, hw with
    | [a, b, c, d, e], _, hw => exact ⟨(a, b, c, d, e), rfl, hw a (by simp), hw b (by simp), hw c (by simp), hw d (by simp), hw e (by simp)⟩
/-- of structs of four integers -/
theorem open_row4s {w : World} {base : Nat} {spare : Nat → Bool} {held : Bool} {r : Reach} {b0 : Nat} {t e : TypeId} {fs : Array Field} {v : Value} {d : DataW H} {p : List MemPlace} (ht : P.underlying t = some (.slice e)) (hs : P.underlying e = some (.struct fs)) (hone : oneCellFields P fs = true) (hC : P.cellsOf e = fs.size) (h3 : fs.size = 4) (hi : allI64 P fs = true)
    (hv : Value.okWide P w r b0 t v) (h : DataW.Trod enc P w base spare held t v d p) :
    ∃ l : List (Int × Int × Int × Int), l.length ≤ maxLen ∧ (∀ x ∈ l, (Lit.int .i64 x.1).wf = true ∧ (Lit.int .i64 x.2.1).wf = true ∧ (Lit.int .i64 x.2.2.1).wf = true ∧ (Lit.int .i64 x.2.2.2).wf = true) ∧ holdsP 0 w (.orow e [.int .i64, .int .i64, .int .i64, .int .i64] l) v :=
  open_rows (ks := [.int .i64, .int .i64, .int .i64, .int .i64]) (Good := fun x : Int × Int × Int × Int => (Lit.int .i64 x.1).wf = true ∧ (Lit.int .i64 x.2.1).wf = true ∧ (Lit.int .i64 x.2.2.1).wf = true ∧ (Lit.int .i64 x.2.2.2).wf = true) ht (by rw [hC, h3]; rfl) hv h fun fuel cs y hy => by
    obtain ⟨l, rfl, hl, hw⟩ := trod_ints hs hone hC hi hy
    rw [h3] at hl
    match l, hl, hw with
    | [a, b, c, d], _, hw => exact ⟨(a, b, c, d), rfl, hw a (by simp), hw b (by simp), hw c (by simp), hw d (by simp)⟩
end
end Go.Proofs.Ytheknddbbgjpkaa.Law
