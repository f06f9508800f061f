/- Layer 21: pods, by lists. -/
import Derived.Test.YtfnadebkobfemaaEngO
namespace Go.Proofs.Ytfnadebkobfemaa.Lif
open Go.Eng
set_option linter.unusedVariables false
set_option linter.unusedSimpArgs false
def stay (p : R4) : Bool := p.2.1 != 3
def cnt (l : List R4) : Nat := (l.filter stay).length
def rdy (l : List R4) : List Int := (l.filter fun p => p.2.1 == 2).map (·.1)
def bef (a b : R4) : Bool := bif a.2.1 != b.2.1 then a.2.1 == 1 else decide (a.2.2.1 < b.2.2.1)
def spStep (o : Option (Nat × R4)) (x : R4 × Nat) : Option (Nat × R4) :=
  bif x.1.2.1 == 3 then o else match o with
    | none => some (x.2, x.1)
    | some (j, q) => bif bef q x.1 then some (j, q) else some (x.2, x.1)
def spO (l : List R4) : Option (Nat × R4) := l.zipIdx.foldl spStep none
def ripe (now a : Int) (p : R4) : R4 := bif p.2.1 == 1 && decide (p.2.2.2 + a ≤ now) then (p.1, 2, p.2.2.1, p.2.2.2) else p
def ripeL (now a : Int) (l : List R4) : List R4 := bif decide (a < 0) || decide (100 < a) then l else l.map (ripe now a)
def findI (id : Int) (l : List R4) : Option Nat := l.findIdx? fun p => p.1 == id
def disL (now : Int) (l : List R4) : List R4 := match spO l with
  | none => l
  | some (j, q) => bif decide (0 < q.2.2.1) then l.set j (q.1, 3, q.2.2.1, now) else l.eraseIdx j
def disN (now : Int) : Nat → List R4 → List R4
  | 0, l => l
  | n + 1, l => disN now n (disL now l)
def newP (now : Int) : Nat → Int → List R4
  | 0, _ => []
  | n + 1, m => (m, 1, 0, now) :: newP now n (m + 1)
/-- scaled: pods that come, then pods that go -/
def scaleL (m : Int) (l : List R4) (want now : Int) : List R4 := disN now ((cnt l : Int) - want).toNat (l ++ newP now (want - (cnt l : Int)).toNat m)
def scaleM (m : Int) (l : List R4) (want : Int) : Int := m + (want - (cnt l : Int)).toNat
def okA (want now : Int) : Bool := decide (0 ≤ want) && (decide (want ≤ 100) && (decide (0 ≤ now) && decide (now ≤ 1099511627776)))
def wv (n : Int) : Int := IntKind.wrap .i64 n
def upd (l : List R4) (k : Nat) (d : Int) : List R4 := l.set (0 + Int.toNat k) ((g4 l k).1, (g4 l k).2.1, wv ((g4 l k).2.2.1 + d), (g4 l k).2.2.2)
def updS (l : List R4) (k : Nat) (d : Int) : List R4 := l.set (0 + Int.toNat k) ((g4 l k).1, (g4 l k).2.1, wv ((g4 l k).2.2.1 - d), (g4 l k).2.2.2)
def entP (id : Int) (l : List R4) : Int × List R4 := match findI id l with
  | none => (7, l)
  | some k => bif (g4 l k).2.1 != 2 then (7, l) else (0, upd l k 1)
def leaP (id : Int) (l : List R4) : Int × List R4 := match findI id l with
  | none => (7, l)
  | some k => bif (g4 l k).2.2.1 == 0 then (7, l) else
      bif (g4 (updS l k 1) k).2.1 == 3 && (g4 (updS l k 1) k).2.2.1 == 0 then (0, (updS l k 1).eraseIdx k) else (0, updS l k 1)
def craP (i : Int) (l : List R4) : (R4 × Int) × List R4 := bif decide (i < 0) || decide ((l.length : Int) ≤ i) then (((0, 0, 0, 0), 7), l) else ((g4 l i, 0), l.eraseIdx i.toNat)
theorem findI_some {id : Int} {l : List R4} {k : Nat} (h : findI id l = some k) : k < l.length := by
  unfold findI at h
  exact (List.findIdx?_eq_some_iff_findIdx_eq.1 h).1
theorem disN_succ (now : Int) : ∀ (n : Nat) (l : List R4), disN now (n + 1) l = disL now (disN now n l)
  | 0, l => rfl
  | n + 1, l => by
    show disN now (n + 1) (disL now l) = disL now (disN now n (disL now l))
    exact disN_succ now n _
theorem newP_succ (now : Int) : ∀ (n : Nat) (m : Int), newP now (n + 1) m = newP now n m ++ [(m + n, 1, 0, now)]
  | 0, m => by simp [newP]
  | n + 1, m => by
    show (m, 1, 0, now) :: newP now (n + 1) (m + 1) = (m, 1, 0, now) :: newP now n (m + 1) ++ _
    rw [newP_succ now n (m + 1)]
    simp only [List.cons_append]
    congr 3
    simp only [Prod.mk.injEq, and_true]
    omega
theorem newP_len (now : Int) : ∀ (n : Nat) (m : Int), (newP now n m).length = n
  | 0, m => rfl
  | n + 1, m => by simp [newP, newP_len now n]
theorem disL_len (now : Int) (l : List R4) : (disL now l).length ≤ l.length := by
  unfold disL
  split
  · exact Nat.le_refl _
  · rename_i j q h
    cases decide (0 < q.2.2.1)
    · simp only [cond_false, List.length_eraseIdx]; split <;> omega
    · simp
theorem disN_len (now : Int) : ∀ (n : Nat) (l : List R4), (disN now n l).length ≤ l.length
  | 0, l => Nat.le_refl _
  | n + 1, l => Nat.le_trans (disN_len now n _) (disL_len now l)
theorem zip_next {l : List R4} {i : Int} (h : 0 ≤ i) (hj : i.toNat < l.length) : (l.take (i + 1).toNat).zipIdx = (l.take i.toNat).zipIdx ++ [(l[i.toNat], i.toNat)] := by
  rw [take_next h hj, List.zipIdx_append]
  simp [List.length_take, Nat.min_eq_left (Nat.le_of_lt hj)]
theorem spO_next {l : List R4} {i : Int} (h : 0 ≤ i) (hj : i.toNat < l.length) : spO (l.take (i + 1).toNat) = spStep (spO (l.take i.toNat)) (l[i.toNat], i.toNat) := by
  unfold spO
  rw [zip_next h hj, List.foldl_append]; rfl
theorem spStep_cases {o : Option (Nat × R4)} {x : R4 × Nat} {r : Nat × R4} (h : spStep o x = some r) : o = some r ∨ (r = (x.2, x.1) ∧ (x.1.2.1 == 3) = false) := by
  unfold spStep at h
  cases hq : x.1.2.1 == 3
  · rw [hq] at h
    simp only [cond_false] at h
    cases o with
    | none => simp only [Option.some.injEq] at h; exact .inr ⟨h.symm, rfl⟩
    | some q =>
      obtain ⟨j, q⟩ := q
      simp only at h
      cases hb : bef q x.1
      · rw [hb] at h; simp only [cond_false, Option.some.injEq] at h; exact .inr ⟨h.symm, rfl⟩
      · rw [hb] at h; exact .inl h
  · rw [hq] at h; exact .inl h
theorem spO_fold : ∀ (l : List (R4 × Nat)) (o : Option (Nat × R4)) (r : Nat × R4), l.foldl spStep o = some r → o = some r ∨ ∃ x ∈ l, r = (x.2, x.1) ∧ (x.1.2.1 == 3) = false
  | [], o, r, h => .inl h
  | x :: t, o, r, h => by
    rcases spO_fold t _ r h with h | ⟨y, hy, e⟩
    · rcases spStep_cases h with h | h
      · exact .inl h
      · exact .inr ⟨x, by simp, h⟩
    · exact .inr ⟨y, by simp [hy], e⟩
theorem spO_some {l : List R4} {j : Nat} {q : R4} (h : spO l = some (j, q)) : l[j]? = some q ∧ (q.2.1 == 3) = false := by
  rcases spO_fold _ _ _ h with h | ⟨x, hx, e, e2⟩
  · cases h
  · obtain ⟨p, i⟩ := x
    simp only [Prod.mk.injEq] at e
    obtain ⟨rfl, rfl⟩ := e
    exact ⟨List.mem_zipIdx_iff_getElem?.1 hx, e2⟩
theorem spO_lt {l : List R4} {j : Nat} {q : R4} (h : spO l = some (j, q)) : j < l.length := by
  have := (spO_some h).1
  exact (List.getElem?_eq_some_iff.1 this).1
end Go.Proofs.Ytfnadebkobfemaa.Lif
