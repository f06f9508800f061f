/- Layer 15: DelayHolds: the outer loop. -/
import Derived.Test.Ytmijloophkkanaa15U
namespace Go.Proofs.Ytmijloophkkanaa.Del
open Go.Eng Go.RowKit
set_option linter.unusedVariables false
set_option linter.unusedSimpArgs false
noncomputable def pdec (P : Prop) : Bool := @decide P (Classical.propDecidable P)
theorem pdec_iff {P : Prop} : pdec P = true ↔ P := by
  unfold pdec
  exact @decide_eq_true_iff P (Classical.propDecidable P)
/-- the list tells the numbers that were wanted -/
def stk (i : Int) (L : List Stp) (W : List Int) : Prop := (∀ x ∈ L, x.2 = gI W x.1) ∧ L.Pairwise (fun x y => x.1 < y.1) ∧ ∀ k : Int, 0 ≤ k → k < i → ∃ x ∈ L, k ≤ x.1 ∧ gI W k ≤ x.2
theorem gI_app {W : List Int} {w k : Int} (h0 : 0 ≤ k) (h : k < W.length) : gI (W ++ [w]) k = gI W k := by
  unfold gI
  rw [Nat.zero_add, List.getD_eq_getElem?_getD, List.getD_eq_getElem?_getD, List.getElem?_append_left (by omega)]
theorem gI_last {W : List Int} {w : Int} : gI (W ++ [w]) (W.length : Int) = w := by
  unfold gI
  rw [Nat.zero_add, Int.toNat_natCast, List.getD_eq_getElem?_getD]
  simp
theorem drop_rest (l : List Stp) (w : Int) : ∀ k q, dropN l w k ≤ q → q < k → (l.getD q (0, 0)).2 ≤ w
  | 0, q, _, h => by omega
  | k + 1, q, h1, h2 => by
    unfold dropN at h1
    split at h1
    · rename_i hc
      by_cases e : q = k
      · rw [e]; exact hc
      · exact drop_rest l w k q h1 (by omega)
    · omega
theorem stk_put {i w : Int} {j : Nat} {L : List Stp} {W : List Int} (hd : dlyOk i j L = true) (hW : (W.length : Int) = i) (h : stk i L W) : stk (i + 1) (putN j L i w) (W ++ [w]) := by
  simp only [dlyOk, Bool.and_eq_true, decide_eq_true_eq, List.all_eq_true, stepOk] at hd
  obtain ⟨⟨⟨rfl, h2⟩, h3⟩, h4⟩ := hd
  obtain ⟨s1, s2, s3⟩ := h
  have hlast : gI (W ++ [w]) i = w := by rw [← hW]; exact gI_last
  refine ⟨fun x hx => ?_, ?_, fun k h0 hk => ?_⟩
  · rcases put_mem hx with q | q
    · obtain ⟨⟨⟨a, b⟩, c⟩, d⟩ := h4 x q
      rw [gI_app a (by omega)]; exact s1 x q
    · rw [q]; exact hlast.symm
  · unfold putN
    rw [List.pairwise_append]
    refine ⟨List.Pairwise.sublist (List.take_sublist _ _) s2, List.pairwise_singleton _ _, fun x hx y hy => ?_⟩
    obtain rfl := List.mem_singleton.1 hy
    exact (h4 x (List.mem_of_mem_take hx)).1.1.2
  · have hnew : (i, w) ∈ putN L.length L i w := by unfold putN; simp
    by_cases e : k = i
    · exact ⟨(i, w), hnew, by rw [e]; exact Int.le_refl _, by rw [e, hlast]; exact Int.le_refl _⟩
    · obtain ⟨x, hx, a, b⟩ := s3 k h0 (by omega)
      rw [gI_app h0 (by omega)]
      obtain ⟨q, hq, rfl⟩ := List.mem_iff_getElem.1 hx
      by_cases c : q < dropN L w L.length
      · refine ⟨L[q], ?_, a, b⟩
        unfold putN
        exact List.mem_append_left _ (List.mem_iff_getElem.2 ⟨q, by simp; omega, by simp⟩)
      · have hle := drop_rest L w L.length q (by omega) hq
        rw [List.getD_eq_getElem?_getD, List.getElem?_eq_getElem hq] at hle
        exact ⟨(i, w), hnew, by dsimp only; omega, Int.le_trans b hle⟩
/-- the first step that counts tells the most of the window -/
theorem most_win {s a t lo M : Int} {L : List Stp} {W : List Int} (hl : L.length ≤ 1000000) (hd : desc L) (hs : stk (t + 1) L W) (hr : ∀ x ∈ L, 0 ≤ x.1 ∧ x.1 ≤ t) (h0 : 0 ≤ lo) (hlo : lo ≤ t) (hh : ∀ x ∈ L, (hitW s t x = true ↔ lo ≤ x.1))
    (hM : ∀ k : Int, lo ≤ k → k ≤ t → gI W k ≤ M) (hE : ∃ k : Int, lo ≤ k ∧ k ≤ t ∧ M = gI W k) : mostN s a t L.length L = M := by
  obtain ⟨s1, s2, s3⟩ := hs
  obtain ⟨h1, h2, h3, h4⟩ := at_says (s := s) (a := a) (t := t) (k := L.length) (Nat.le_refl _) hl
  -- whatever lies in the window is reached by a step from the first one on
  have key : ∀ k : Int, lo ≤ k → k ≤ t → atW s a t L.length L < L.length ∧ gI W k ≤ (gS L (atW s a t L.length L)).2 := by
    intro k hk1 hk2
    obtain ⟨x, hx, a1, a2⟩ := s3 k (by omega) (by omega)
    obtain ⟨q, hq, rfl⟩ := List.mem_iff_getElem.1 hx
    have hit : hitW s t L[q] = true := (hh _ hx).2 (by omega)
    have eq : gS L (q : Int) = L[q] := by
      unfold gS
      rw [Nat.zero_add, Int.toNat_natCast, List.getD_eq_getElem?_getD, List.getElem?_eq_getElem hq]; rfl
    have hle : atW s a t L.length L ≤ q := by
      rcases Int.lt_or_le (q : Int) (atW s a t L.length L) with c | c
      · have := h4 q (by omega) c
        rw [eq, hit] at this; cases this
      · exact c
    refine ⟨by omega, ?_⟩
    by_cases e : atW s a t L.length L = q
    · rw [e, eq]; exact a2
    · have hdg := desc_get hd (p := (atW s a t L.length L).toNat) (q := q) (by omega) hq
      rw [List.getD_eq_getElem?_getD (i := q), List.getElem?_eq_getElem hq] at hdg
      have : (L[q]).2 < (gS L (atW s a t L.length L)).2 := by
        unfold gS; rw [Nat.zero_add]; exact hdg
      omega
  obtain ⟨k, k1, k2, rfl⟩ := hE
  obtain ⟨c1, c2⟩ := key k k1 k2
  unfold mostN
  rw [if_pos c1]
  have hmem := gS_mem (l := L) h1 c1
  have hx := (hh _ hmem).1 (h3 c1)
  have hv := s1 _ hmem
  have hb := hM _ hx (hr _ hmem).2
  rw [← hv] at hb
  omega
def invO' (p : PHo) (a : AHo) : Prop := p.s' = p.s ∧ 0 ≤ p.s ∧ p.s ≤ 60 ∧ p.k = p.g.length ∧ a.n = a.W.length ∧ (a.n : Int) = a.i ∧ a.i ≤ 150 ∧ a.a ≤ a.i ∧ dlyOk a.i a.j a.L = true ∧ stk a.i a.L a.W
noncomputable def invO (p : PHo) (a : AHo) : Bool := pdec (invO' p a)
def nxtO (p : PHo) (a : AHo) : Option AHo := if a.i < p.k ∧ a.i < 150 then some ⟨a.i, putN a.j a.L a.i (wS p.g a.i), dropN a.L (wS p.g a.i) a.j + 1, a.W ++ [wS p.g a.i], a.n + 1, a.i + 1⟩ else none
noncomputable def outO' (p : PHo) (a : AHo) : T (Ex × St) := .ret (.exit 0, FO p a)
theorem stO (p : PHo) (a b : AHo) (h : invO p a = true) (e : nxtO p a = some b) : invO p b = true ∧ (150 - b.i).toNat < (150 - a.i).toNat := by
  obtain ⟨z, L, j, W, n, i⟩ := a
  unfold nxtO at e
  split at e
  · rename_i hc
    obtain rfl := Option.some.inj e
    unfold invO at h ⊢
    rw [pdec_iff] at h ⊢
    obtain ⟨h1, h2, h3, h4, h5, h6, h7, h8, h9, h10⟩ := h
    dsimp only at *
    exact ⟨⟨h1, h2, h3, h4, by simp; omega, by dsimp only; omega, by dsimp only; omega, by dsimp only; omega, (dly_put h9 (by omega) (by omega) (wS_range p.g i)).2, stk_put h9 (by omega) h10⟩, by omega⟩
  · cases e
/-- the inner loop's end -/
theorem end2 {p : P2} {x q0 : Int} (h : inv2 p ⟨x, q0⟩ = true) : x ≤ (endW (nxt2 p) ⟨x, q0⟩).m ∧ (∀ k, q0 ≤ k → k < p.i → gI p.W k ≤ (endW (nxt2 p) ⟨x, q0⟩).m) ∧ ((endW (nxt2 p) ⟨x, q0⟩).m = x ∨ ∃ k, q0 ≤ k ∧ k < p.i ∧ (endW (nxt2 p) ⟨x, q0⟩).m = gI p.W k) := by
  obtain ⟨h1, h2, h3⟩ := endW_says (st2 p) h
  have h4 := h3 (fun a => q0 ≤ a.q ∧ x ≤ a.m ∧ (∀ k, q0 ≤ k → k < a.q → gI p.W k ≤ a.m) ∧ (a.m = x ∨ ∃ k, q0 ≤ k ∧ k < p.i ∧ a.m = gI p.W k)) ⟨Int.le_refl _, Int.le_refl _, fun k a b => by dsimp only at b; omega, .inl rfl⟩ fun a b _ hq e => by
    obtain ⟨m, q⟩ := a
    unfold nxt2 at e
    split at e
    · rename_i hc
      obtain rfl := Option.some.inj e
      dsimp only at hc hq ⊢
      obtain ⟨g1, g2, g3, g4⟩ := hq
      have hm : m ≤ mxm m (gI p.W q) ∧ gI p.W q ≤ mxm m (gI p.W q) ∧ (mxm m (gI p.W q) = m ∨ mxm m (gI p.W q) = gI p.W q) := by unfold mxm; split <;> omega
      refine ⟨by omega, by omega, fun k a b => ?_, ?_⟩
      · by_cases e : k = q
        · rw [e]; exact hm.2.1
        · have := g3 k a (by omega); omega
      · rcases hm.2.2 with c | c
        · rw [c]; exact g4
        · exact .inr ⟨q, g1, hc, c⟩
    · cases e
  generalize endW (nxt2 p) ⟨x, q0⟩ = E at *
  obtain ⟨m, q⟩ := E
  unfold nxt2 at h2
  split at h2
  · cases h2
  · rename_i hc
    dsimp only at hc h4 ⊢
    exact ⟨h4.2.1, fun k a b => h4.2.2.1 k a (by omega), h4.2.2.2⟩
end Go.Proofs.Ytmijloophkkanaa.Del
