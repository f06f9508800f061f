/- Layer 20: QueuePlays, its steps. -/
import Derived.Test.YtenifknkahogjaaQueBf
namespace Go.Proofs.Ytenifknkahogjaa.Que
open Go.Eng Go.RowKit
set_option linter.unusedVariables false
set_option linter.unusedSimpArgs false
def in63 (x : Int) : Prop := -9223372036854775808 ≤ x ∧ x ≤ 9223372036854775807
theorem wB_val {t now age : Int} (h1 : in63 t) (h2 : in63 now) (h3 : in63 age) : wB t now age = decide (t ≤ now ∧ (if 0 > age then 0 else age) ≤ now - t) := by
  obtain ⟨a1, a2⟩ := h1
  obtain ⟨b1, b2⟩ := h2
  obtain ⟨c1, c2⟩ := h3
  unfold wB
  by_cases q : t ≤ now
  · rw [decide_eq_true q]
    show decide _ = decide _
    simp only [wrapu64]
    refine decide_eq_decide.2 ?_
    split <;> omega
  · rw [decide_eq_false q, decide_eq_false (show ¬ (t ≤ now ∧ (if 0 > age then 0 else age) ≤ now - t) from fun h => q h.1)]; rfl
theorem wB_mono {x y now age : Int} (h1 : in63 x) (h2 : in63 y) (hn : in63 now) (ha : in63 age) (h : x ≤ y) (hy : wB y now age = true) : wB x now age = true := by
  rw [wB_val h2 hn ha] at hy
  rw [wB_val h1 hn ha]
  have := of_decide_eq_true hy
  refine decide_eq_true ?_
  omega
def sortd (l : List (Int × Int)) : Prop := l.Pairwise fun x y => x.2 ≤ y.2
theorem late_split {l : List (Int × Int)} {now age : Int} {k : Nat} (hs : sortd l) (hr : ∀ x ∈ l, in63 x.2) (hn : in63 now) (ha : in63 age) (h6 : ∀ j : Nat, (h : j < k) → (hj : j < l.length) → wB l[j].2 now age = true) (h7 : (hk : k < l.length) → wB l[k].2 now age = false) :
    l.filter (ltR now age) = l.take k ∧ l.filter (nlR now age) = l.drop k := by
  have A : ∀ x ∈ l.take k, wB x.2 now age = true := by
    intro x hx
    obtain ⟨i, hi, rfl⟩ := List.mem_take_iff_getElem.1 hx
    exact h6 i (by omega) (by omega)
  have B : ∀ x ∈ l.drop k, wB x.2 now age = false := by
    intro x hx
    by_cases hk : k < l.length
    · have hp : sortd (l.drop k) := List.Pairwise.sublist (List.drop_sublist k l) hs
      have hxl : x ∈ l := List.mem_of_mem_drop hx
      rw [List.drop_eq_getElem_cons hk] at hx hp
      rcases List.mem_cons.1 hx with e | e
      · rw [e]; exact h7 hk
      · cases q : wB x.2 now age
        · rfl
        · have := wB_mono (hr _ (List.getElem_mem hk)) (hr x hxl) hn ha ((List.pairwise_cons.1 hp).1 x e) q
          rw [h7 hk] at this; cases this
    · rw [List.drop_of_length_le (by omega)] at hx; cases hx
  have e : l = l.take k ++ l.drop k := (List.take_append_drop k l).symm
  have f1 : (l.take k).filter (ltR now age) = l.take k := List.filter_eq_self.2 fun x hx => A x hx
  have f2 : (l.drop k).filter (ltR now age) = [] := List.filter_eq_nil_iff.2 fun x hx => by unfold ltR; rw [B x hx]; simp
  have f3 : (l.take k).filter (nlR now age) = [] := List.filter_eq_nil_iff.2 fun x hx => by unfold nlR; rw [A x hx]; simp
  have f4 : (l.drop k).filter (nlR now age) = l.drop k := List.filter_eq_self.2 fun x hx => by unfold nlR; rw [B x hx]; rfl
  constructor
  · have q : (l.take k ++ l.drop k).filter (ltR now age) = l.take k := by rw [List.filter_append, f1, f2, List.append_nil]
    rwa [← e] at q
  · have q : (l.take k ++ l.drop k).filter (nlR now age) = l.drop k := by rw [List.filter_append, f3, f4, List.nil_append]
    rwa [← e] at q
theorem tk_is {j : Nat} {W : List Int} (h : j = W.length) : tk j W = W := by unfold tk; rw [List.drop_zero, h, List.take_length]
theorem intC_ok {j k : Nat} {W X : List Int} (hW : W = X) (hj : j = W.length) (hk : k = X.length) (hl : W.length ≤ 1000) : allSay (intC j W k X) := by
  subst hW
  refine ⟨?_, ?_, invC_is ⟨?_, rfl, rfl, ?_, Int.le_refl 0, ?_⟩, trivial⟩
  · rw [decide_eq_true (show 0 + j ≤ W.length by omega), decide_eq_true (show 0 + k ≤ W.length by omega)]; rfl
  · rw [tk_is hj, tk_is hk]; simp
  · show tk j W = tk k W; rw [tk_is hj, tk_is hk]
  · show (tk j W).length ≤ 1000; rw [tk_is hj]; exact hl
  · show (0 : Int) ≤ ((tk j W).length : Int); omega
theorem tail_ok (d : Int) (u : Option Int) {n : Nat} {l : List (Int × Int)} {m : Nat} {r : List (Int × Int)} (hn : n = l.length) (hm : m = l.length) (hr : r = l) (hl : l.length ≤ 1000) : allSay (tailC d u n l m r d u) := by
  subst hr
  obtain ⟨b1, b2, b3⟩ := all_ok (d := d) (u := u) hn hl
  have o : okRA ⟨d, u, m, r⟩ ⟨[], 0, 0⟩ := ⟨hm, hl, rfl, Int.le_refl 0, by show (0 : Int) ≤ (m : Int); omega, rfl⟩
  have q : okRA ⟨d, u, m, r⟩ (eRA d u m r) ∧ goRA ⟨d, u, m, r⟩ (eRA d u m r) = false := endC stepRA o
  obtain ⟨⟨-, -, q3, q4, q5, q6⟩, q7⟩ := q
  have hi : ¬ (eRA d u m r).i < (m : Int) := of_decide_eq_false q7
  have q5' : (eRA d u m r).i ≤ (m : Int) := q5
  have hW : (eRA d u m r).W = r.map (·.1) := by
    rw [q6]; show (r.take (eRA d u m r).i.toNat).map _ = _
    rw [show (eRA d u m r).i.toNat = r.length by omega, List.take_length]
  refine ⟨mkB_is (by omega), b1, invC_is o, intC_ok ?_ ?_ q3 ?_⟩
  · rw [hW]; exact b2
  · show (eA (pA d u n r)).j = (eA (pA d u n r)).W.length; rw [b3, b2, List.length_map]
  · show (eA (pA d u n r)).W.length ≤ 1000; rw [b2, List.length_map]; exact hl
def okQ (p : PQ) (a : AQ) : Prop := p.k = p.g.length ∧ p.g.length ≤ 120 ∧ (∀ x ∈ p.g, in63 x.2.2.2.1 ∧ in63 x.2.2.2.2) ∧ a.n = a.l.length ∧ a.n' = a.l.length ∧ a.l' = a.l ∧ (a.l.length : Int) ≤ a.i ∧ 0 ≤ a.i ∧ a.i ≤ p.k ∧ sortd a.l ∧ (∀ x ∈ a.l, in63 x.2 ∧ ∃ t, a.u = some t ∧ x.2 ≤ t) ∧ a.d' = a.d ∧ a.u' = a.u
def goQ (p : PQ) (a : AQ) : Bool := decide (a.i < (p.k : Int))
def muQ (p : PQ) (a : AQ) : Nat := (p.k - a.i).toNat
theorem fin {p : PQ} {a : AQ} (h : okQ p a) (hi : a.i < (p.k : Int)) {d : Int} {u : Option Int} {n : Nat} {l : List (Int × Int)} {m : Nat} {r : List (Int × Int)} (hn : n = l.length) (hm : m = l.length) (hr : r = l) (hl : (l.length : Int) ≤ a.i + 1) (hs : sortd l) (hb : ∀ x ∈ l, in63 x.2 ∧ ∃ t, u = some t ∧ x.2 ≤ t) :
    okQ p ⟨d, u, n, l, m, r, IntKind.wrap .i64 (a.i + 1), d, u⟩ ∧ muQ p ⟨d, u, n, l, m, r, IntKind.wrap .i64 (a.i + 1), d, u⟩ < muQ p a := by
  obtain ⟨h1, h2, h3, h4, h5, h6, h7, h8, h9, h10, h11, h12, h13⟩ := h
  have hw : IntKind.wrap .i64 (a.i + 1) = a.i + 1 := wrap64_in (by omega) (by omega)
  rw [hw]
  refine ⟨⟨h1, h2, h3, hn, hm, hr, hl, ?_, ?_, hs, hb, rfl, rfl⟩, ?_⟩
  · show 0 ≤ a.i + 1; omega
  · show a.i + 1 ≤ p.k; omega
  · show (p.k - (a.i + 1)).toNat < (p.k - a.i).toNat; omega
theorem dC_eq (o : R5) : dC2 o = dC1 o := by
  unfold dC1 dC2
  by_cases q : o.2.2.1 < 0
  · rw [decide_eq_true q, decide_eq_false (show ¬ 0 ≤ o.2.2.1 by omega)]; rfl
  · rw [decide_eq_false q, decide_eq_true (show 0 ≤ o.2.2.1 by omega)]
    by_cases r : o.2.2.1 ≤ 200
    · rw [decide_eq_true r, decide_eq_false (show ¬ 200 < o.2.2.1 by omega)]; rfl
    · rw [decide_eq_false r, decide_eq_true (show 200 < o.2.2.1 by omega)]; rfl
end Go.Proofs.Ytenifknkahogjaa.Que
