/- Layer 20: what Late does; the states of QueueLate's loops. -/
import Derived.Test.YtfnadebkobfemaaQueAb
namespace Go.Proofs.Ytfnadebkobfemaa.Que
open Go.Eng Go.RowKit
set_option linter.unusedVariables false
set_option linter.unusedSimpArgs false
noncomputable def eL (p : PL) (n : Nat) (l : List (Int × Int)) : AL := endW (nxtL p) ⟨n, l, [], 0⟩
def late (p : PL) (x : Int × Int) : Bool := wB x.2 p.now p.age
theorem lt_ok {p : PL} {n : Nat} {l : List (Int × Int)} (hn : n = l.length) (hl : l.length ≤ 1000) : invC okL p ⟨n, l, [], 0⟩ = true ∧ ∃ k : Nat, k ≤ l.length ∧ (eL p n l).l = l.drop k ∧ (eL p n l).W = (l.take k).map (·.1) ∧ (eL p n l).n = l.length - k ∧ (eL p n l).j = k ∧
    (∀ j : Nat, (h : j < k) → (hj : j < l.length) → late p l[j] = true) ∧ ((hk : k < l.length) → late p l[k] = false) := by
  have h0 : okL p ⟨n, l, [], 0⟩ := ⟨hn, rfl, by show l.length + 0 ≤ 1000; omega⟩
  refine ⟨invC_is h0, ?_⟩
  obtain ⟨e1, e2, e3⟩ := endW_says (nxt := nxtL p) (I := fun a => invC okL p a = true) (μ := muL p) (fun a b h e => stL p a b h e) (invC_is h0)
  have e1' : okL p (eL p n l) := invC_ok e1
  have e2' : nxtL p (eL p n l) = none := e2
  have e3' := e3 (fun a => a.W.length ≤ l.length ∧ a.l = l.drop a.W.length ∧ a.W = (l.take a.W.length).map (·.1) ∧ ∀ j : Nat, (h : j < a.W.length) → (hj : j < l.length) → late p l[j] = true) ⟨Nat.zero_le _, rfl, rfl, fun j h => absurd h (Nat.not_lt_zero j)⟩ (by
    rintro a b hi ⟨q1, q2, q3, q4⟩ hb
    obtain ⟨o1, o2, o3⟩ := invC_ok hi
    unfold nxtL at hb
    split at hb
    · rename_i hg
      obtain rfl := Option.some.inj hb
      unfold goL at hg
      simp only [Bool.and_eq_true, Bool.not_eq_true', beq_eq_false_iff_ne] at hg
      have hlen : a.l.length = l.length - a.W.length := by rw [q2, List.length_drop]
      have hlt : a.W.length < l.length := by omega
      have hg0 : g2w a.l 0 = l[a.W.length] := by
        unfold g2w
        rw [List.getD_eq_getElem?_getD, show 0 + Int.toNat 0 = 0 from rfl, q2, List.getElem?_drop, Nat.add_zero, List.getElem?_eq_getElem hlt]; rfl
      rw [tail_is o1 o2]
      refine ⟨?_, ?_, ?_, ?_⟩
      · show (a.W ++ [(g2w a.l 0).1]).length ≤ l.length; simp; omega
      · show a.l.tail = l.drop (a.W ++ [(g2w a.l 0).1]).length
        rw [List.length_append, List.length_singleton, q2, List.tail_drop]
      · show a.W ++ [(g2w a.l 0).1] = (l.take (a.W ++ [(g2w a.l 0).1]).length).map (·.1)
        rw [List.length_append, List.length_singleton, List.take_add_one, List.map_append, ← q3, List.getElem?_eq_getElem hlt, hg0]; rfl
      · show ∀ j : Nat, (h : j < (a.W ++ [(g2w a.l 0).1]).length) → _
        intro j h hj
        rw [List.length_append, List.length_singleton] at h
        by_cases e : j < a.W.length
        · exact q4 j e hj
        · have : j = a.W.length := by omega
          subst this
          unfold late
          rw [← hg0]; exact hg.2
    · cases hb)
  obtain ⟨q1, q2, q3, q4⟩ := (show _ ∧ _ ∧ _ ∧ _ from e3')
  obtain ⟨o1, o2, o3⟩ := e1'
  have hlen : (eL p n l).l.length = l.length - (eL p n l).W.length := by rw [show (eL p n l).l = l.drop (eL p n l).W.length from q2, List.length_drop]
  refine ⟨(eL p n l).W.length, q1, q2, q3, by rw [o1, hlen], o2, q4, fun hk => ?_⟩
  have hg0 : g2w (eL p n l).l 0 = l[(eL p n l).W.length] := by
    unfold g2w
    rw [List.getD_eq_getElem?_getD, show 0 + Int.toNat 0 = 0 from rfl, show (eL p n l).l = l.drop (eL p n l).W.length from q2, List.getElem?_drop, Nat.add_zero, List.getElem?_eq_getElem hk]; rfl
  unfold nxtL at e2'
  split at e2'
  · cases e2'
  · rename_i hg
    unfold goL at hg
    have hn0 : (((eL p n l).n : Int) == 0) = false := by rw [beq_eq_false_iff_ne]; omega
    rw [hn0, hg0] at hg
    unfold late
    simpa using hg
end Go.Proofs.Ytfnadebkobfemaa.Que
