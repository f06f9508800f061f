/- Layer 15: what is wanted falls from step to step. -/
import Derived.Test.Ytmijloophkkanaa15H
namespace Go.Proofs.Ytmijloophkkanaa.Del
open Go.Eng Go.RowKit
set_option linter.unusedVariables false
set_option linter.unusedSimpArgs false
theorem at_says {s a t : Int} {k : Nat} {l : List Stp} (hk : k ≤ l.length) (hk2 : k ≤ 1000000) : 0 ≤ atW s a t k l ∧ atW s a t k l ≤ k ∧ (atW s a t k l < k → hitW s t (gS l (atW s a t k l)) = true) ∧ ∀ q : Int, 0 ≤ q → q < atW s a t k l → hitW s t (gS l q) = false := by
  have hi : invW (pW s a t k l) 0 = true := by
    show (decide ((0 : Int) ≤ 0) && decide ((k : Int) = (k : Int)) && decide (k ≤ l.length) && decide (k ≤ 1000000)) = true
    rw [decide_eq_true hk, decide_eq_true hk2, decide_eq_true (show (k : Int) = k from rfl)]; rfl
  obtain ⟨h1, h2, h3⟩ := endW_says (stW (pW s a t k l)) hi
  have h4 := h3 (fun i => 0 ≤ i ∧ i ≤ k ∧ ∀ q : Int, 0 ≤ q → q < i → hitW s t (gS l q) = false) ⟨by omega, by omega, fun q h0 h => by omega⟩ fun i b _ hq e => by
    unfold nxtW at e
    split at e
    · rename_i hc
      obtain rfl := Option.some.inj e
      have hc1 : i < (k : Int) := hc.1
      have hc2 : hitW s t (gS l i) = false := hc.2
      refine ⟨by omega, by omega, fun q h0 h => ?_⟩
      by_cases e2 : q = i
      · rw [e2]; exact hc2
      · exact hq.2.2 q h0 (by omega)
    · cases e
  unfold atW
  generalize endW (nxtW (pW s a t k l)) 0 = A at *
  refine ⟨h4.1, h4.2.1, fun hA => ?_, h4.2.2⟩
  unfold nxtW at h2
  split at h2
  · cases h2
  · rename_i hc
    have hA' : A < (pW s a t k l).n := hA
    cases e : hitW s t (gS l A)
    · exact absurd ⟨hA', e⟩ hc
    · rfl
def desc (l : List Stp) : Prop := l.Pairwise fun x y => y.2 < x.2
theorem drop_gt (l : List Stp) (w : Int) : ∀ k, 0 < dropN l w k → w < (l.getD (dropN l w k - 1) (0, 0)).2
  | 0, h => by simp [dropN] at h
  | k + 1, h => by
    unfold dropN at h ⊢
    split
    · rename_i hc; rw [if_pos hc] at h; exact drop_gt l w k h
    · rename_i hc; rw [Nat.add_sub_cancel]; omega
theorem desc_get {l : List Stp} (h : desc l) {p q : Nat} (hpq : p < q) (hq : q < l.length) : (l.getD q (0, 0)).2 < (l.getD p (0, 0)).2 := by
  have := List.pairwise_iff_getElem.1 h p q (by omega) hq hpq
  rw [List.getD_eq_getElem?_getD, List.getD_eq_getElem?_getD, List.getElem?_eq_getElem hq, List.getElem?_eq_getElem (show p < l.length by omega)]
  exact this
theorem put_desc {l : List Stp} (h : desc l) {t w : Int} : desc (putN l.length l t w) := by
  unfold putN desc
  rw [List.pairwise_append]
  refine ⟨List.Pairwise.sublist (List.take_sublist _ _) h, List.pairwise_singleton _ _, fun x hx y hy => ?_⟩
  obtain rfl := List.mem_singleton.1 hy
  obtain ⟨q, hq, rfl⟩ := List.mem_iff_getElem.1 hx
  have hd := dropN_le l w l.length
  simp only [List.length_take] at hq
  have hg := drop_gt l w l.length (by omega)
  have e : (l.take (dropN l w l.length))[q]'(by simp; omega) = l.getD q (0, 0) := by
    rw [List.getD_eq_getElem?_getD, List.getElem?_eq_getElem (show q < l.length by omega)]; simp
  rw [e]
  show w < (l.getD q (0, 0)).2
  by_cases c : q = dropN l w l.length - 1
  · rw [c]; exact hg
  · have := desc_get h (p := q) (q := dropN l w l.length - 1) (by omega) (by omega)
    omega
theorem put_mem {l : List Stp} {k : Nat} {t w : Int} {x : Stp} (h : x ∈ putN k l t w) : x ∈ l ∨ x = (t, w) := by
  unfold putN at h
  rcases List.mem_append.1 h with h | h
  · exact .inl (List.mem_of_mem_take h)
  · exact .inr (List.mem_singleton.1 h)
theorem put_length {l : List Stp} {t w : Int} : (putN l.length l t w).length = dropN l w l.length + 1 := by
  have := dropN_le l w l.length
  unfold putN; simp; omega
theorem gS_mem {l : List Stp} {i : Int} (h0 : 0 ≤ i) (h : i < l.length) : gS l i ∈ l := by
  unfold gS
  have hl : i.toNat < l.length := by omega
  rw [Nat.zero_add, List.getD_eq_getElem?_getD, List.getElem?_eq_getElem hl]
  exact List.getElem_mem hl
theorem most_in {s a t : Int} {l : List Stp} (hl : l.length ≤ 1000000) (hp : ∀ x ∈ l, 0 ≤ x.2) : 0 ≤ mostN s a t l.length l := by
  unfold mostN
  obtain ⟨h1, h2, -, -⟩ := at_says (s := s) (a := a) (t := t) (k := l.length) (Nat.le_refl _) hl
  split
  · rename_i h; exact hp _ (gS_mem h1 h)
  · decide
theorem most_none {s a t : Int} {l : List Stp} (hl : l.length ≤ 1000000) (hn : ∀ x ∈ l, hitW s t x = false) : mostN s a t l.length l = 0 := by
  unfold mostN
  obtain ⟨h1, h2, h3, -⟩ := at_says (s := s) (a := a) (t := t) (k := l.length) (Nat.le_refl _) hl
  split
  · rename_i h
    have := hn _ (gS_mem h1 h)
    rw [h3 h] at this; cases this
  · rfl
/-- a wider span tells no less -/
theorem most_mono {x y a t : Int} {l : List Stp} (hl : l.length ≤ 1000000) (hd : desc l) (hp : ∀ x ∈ l, 0 ≤ x.2) (hm : ∀ z ∈ l, hitW x t z = true → hitW y t z = true) : mostN x a t l.length l ≤ mostN y a t l.length l := by
  have hy := most_in (s := y) (a := a) (t := t) hl hp
  obtain ⟨h1, h2, h3, h4⟩ := at_says (s := x) (a := a) (t := t) (k := l.length) (Nat.le_refl _) hl
  obtain ⟨g1, g2, g3, g4⟩ := at_says (s := y) (a := a) (t := t) (k := l.length) (Nat.le_refl _) hl
  unfold mostN at hy ⊢
  by_cases c : atW x a t l.length l < l.length
  · rw [if_pos c]
    have hx := hm _ (gS_mem h1 c) (h3 c)
    have hle : atW y a t l.length l ≤ atW x a t l.length l := by
      rcases Int.lt_or_le (atW x a t l.length l) (atW y a t l.length l) with q | q
      · rw [g4 _ h1 q] at hx; cases hx
      · exact q
    rw [if_pos (by omega)]
    by_cases e : atW y a t l.length l = atW x a t l.length l
    · rw [e]; exact Int.le_refl _
    · have := desc_get hd (p := (atW y a t l.length l).toNat) (q := (atW x a t l.length l).toNat) (by omega) (by omega)
      unfold gS
      rw [Nat.zero_add, Nat.zero_add]; omega
  · rw [if_neg c]; exact hy
/-! the loop of DelaySpans -/
noncomputable def ds1 : Code := loopAt Try.prog 18 0
structure PS where (g : List Int) (k : Nat) (x y s : Int)
structure AS where (a : Int) (l : List Stp) (j : Nat) (n i : Int)
def rI (l : List Int) : Blk := .lst false 3 [.int .i64] l
def vsS (p : PS) (a : AS) : List V := [.sub 0 1 0 p.k, iv p.x, iv p.y, .ptr 9 0, iv a.n, iv a.i]
def bsS (p : PS) (a : AS) : List Blk := [rI p.g, .cells 96 [iv p.s, iv a.a, .sub 1000 2 0 a.j], stepsB a.l]
abbrev SS : List (Nat × Src) := [(0, .same), (9, .same), (1000, .cell 9 2)]
noncomputable def FS (p : PS) (a : AS) : St := mkSt [0,7,8,9,10,11] [0,9,1000] 1001 92 (vsS p a) (bsS p a)
end Go.Proofs.Ytmijloophkkanaa.Del
