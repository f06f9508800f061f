/- Layer 19: the loops of pick. -/
import Derived.Test.YtacdadifjgppbaaPicS
namespace Go.Proofs.Ytacdadifjgppbaa.Pic
open Go.Eng Go.RowKit Go.Flt Lod Brk
set_option linter.unusedVariables false
set_option linter.unusedSimpArgs false
def bz (g : List (Nat × Nat)) (j : Int) : Int := valW (g1 g j).1
def wt (g : List (Nat × Nat)) (j : Int) : Int := valW (g1 g j).2
def ls (g : List (Nat × Nat)) (i j : Int) : Bool := lessB (bz g i) (wt g i) (bz g j) (wt g j)
def idA (g : List (Nat × Nat)) (k : Nat) (i : Int) : Bool := decide (0 ≤ i) && (decide (i < (k : Int)) && decide (0 + i.toNat < g.length))
def ldA (g : List (Nat × Nat)) (i : Int) : Bool := decide (0 + i.toNat < g.length)
def gdA (p : PA) (a : AA) : Bool := decide (bz p.g a.i < p.m) == true && ((a.b == -1) == false && true)
def tkA (p : PA) (a : AA) : Bool := bif decide (bz p.g a.i < p.m) then bif a.b == -1 then true else ls p.g a.i a.b else false
theorem wayA (p : PA) (a : AA) (e : Bool) : T.path [true, true, true, true, true, true, true, e] (rdA p a) = some ([(decide (a.i < p.c), true), (idA p.g p.k' a.i, true), (ldA p.g a.i, true), (isW (g1 p.g a.i).1, true),
  (bif gdA p a then idA p.g p.k a.b else true, true), (bif gdA p a then ldA p.g a.b else true, true), (bif gdA p a then all4 (g1 p.g a.i).1 (g1 p.g a.i).2 (g1 p.g a.b).1 (g1 p.g a.b).2 else true, true), (tkA p a, e)], (.normal, FA p ⟨bif e then a.i else a.b, IntKind.wrap .i64 (a.i + 1)⟩)) := by cases e <;> kernel_rfl
theorem wayAx (p : PA) (a : AA) : T.path [false] (rdA p a) = some ([(decide (a.i < p.c), false)], (.exit 0, FA p a)) := by kernel_rfl
theorem wayF (p : PA) (a : AA) : T.path [true, true, true, true, false] (rdF p a) = some ([(decide (a.i < p.c), true), (idA p.g p.k' a.i, true), (ldA p.g a.i, true), (isW (g1 p.g a.i).1, true), (decide (bz p.g a.i < p.m), false)], (.normal, FF p ⟨a.b, IntKind.wrap .i64 (a.i + 1)⟩)) := by kernel_rfl
theorem wayFr (p : PA) (a : AA) : T.path [true, true, true, true, true] (rdF p a) = some ([(decide (a.i < p.c), true), (idA p.g p.k' a.i, true), (ldA p.g a.i, true), (isW (g1 p.g a.i).1, true), (decide (bz p.g a.i < p.m), true)], (.ret, FF p ⟨a.i, a.i⟩)) := by kernel_rfl
theorem wayFx (p : PA) (a : AA) : T.path [false] (rdF p a) = some ([(decide (a.i < p.c), false)], (.exit 0, FF p a)) := by kernel_rfl
def rm (m b : Int) : Int := if 0 > IntKind.wrap .i64 (m - b) then 0 else IntKind.wrap .i64 (m - b)
theorem wayB (p : PA) (a : AA) : T.path [true, true, true, true, false] (rdB p a) = some ([(decide (a.i < p.c), true), (idA p.g p.k' a.i, true), (ldA p.g a.i, true), (isW (g1 p.g a.i).1, true), (decide (IntKind.wrap .i64 (9223372036854775807 - rm p.m (bz p.g a.i)) < a.b), false)], (.normal, FB p ⟨IntKind.wrap .i64 (a.b + rm p.m (bz p.g a.i)), IntKind.wrap .i64 (a.i + 1)⟩)) := by kernel_rfl
theorem wayBx (p : PA) (a : AA) : T.path [false] (rdB p a) = some ([(decide (a.i < p.c), false)], (.exit 0, FB p a)) := by kernel_rfl
def okG (p : PA) : Prop := p.k = p.g.length ∧ p.k' = p.g.length ∧ p.c = p.g.length ∧ p.g.length ≤ 1000 ∧ ∀ j : Int, isW (g1 p.g j).1 = true ∧ isW (g1 p.g j).2 = true
def best (g : List (Nat × Nat)) (m i b : Int) : Prop := (b = -1 ∧ ∀ j, 0 ≤ j → j < i → ¬ bz g j < m) ∨ (0 ≤ b ∧ b < i ∧ bz g b < m ∧ ∀ j, 0 ≤ j → j < i → bz g j < m → ls g j b = false ∧ (j < b → ls g b j = true))
def okA (p : PA) (a : AA) : Prop := okG p ∧ 0 ≤ a.i ∧ a.i ≤ p.c ∧ best p.g p.m a.i a.b
def goA (p : PA) (a : AA) : Bool := decide (a.i < p.c)
def muA (p : PA) (a : AA) : Nat := (p.c - a.i).toNat
theorem idA_is {g : List (Nat × Nat)} {k : Nat} {i : Int} (h : k = g.length) (h0 : 0 ≤ i) (h1 : i < k) : idA g k i = true ∧ ldA g i = true := by
  unfold idA ldA
  rw [decide_eq_true h0, decide_eq_true h1, decide_eq_true (show 0 + i.toNat < g.length by omega)]
  exact ⟨rfl, rfl⟩
theorem ls_true {g : List (Nat × Nat)} {i j : Int} : ls g i j = true ↔ bz g i < bz g j ∨ (bz g i = bz g j ∧ wt g i < wt g j) := by
  unfold ls lessB
  by_cases h : bz g i = bz g j
  · simp [h]
  · simp [h]
theorem ls_false {g : List (Nat × Nat)} {i j : Int} : ls g i j = false ↔ ¬ (bz g i < bz g j ∨ (bz g i = bz g j ∧ wt g i < wt g j)) := by
  rw [← ls_true]; simp
theorem stepA (p : PA) (a : AA) (h : okA p a) (hg : goA p a = true) : ∃ b, stepC okA rdA FA muA p a b := by
  obtain ⟨⟨h1, h2, h3, h4, h5⟩, h6, h7, h8⟩ := id h
  have hi : a.i < p.c := of_decide_eq_true hg
  have hw : IntKind.wrap .i64 (a.i + 1) = a.i + 1 := wrap64_in (by omega) (by omega)
  obtain ⟨x1, x2⟩ := idA_is (g := p.g) (k := p.k') (i := a.i) h2 h6 (by omega)
  have g1' : (bif gdA p a then idA p.g p.k a.b else true) = true ∧ (bif gdA p a then ldA p.g a.b else true) = true ∧ (bif gdA p a then all4 (g1 p.g a.i).1 (g1 p.g a.i).2 (g1 p.g a.b).1 (g1 p.g a.b).2 else true) = true := by
    cases q : gdA p a
    · exact ⟨rfl, rfl, rfl⟩
    · have hb : 0 ≤ a.b ∧ a.b < a.i := by
        rcases h8 with h8 | h8
        · unfold gdA at q
          rw [h8.1] at q
          simp at q
        · exact ⟨h8.1, h8.2.1⟩
      obtain ⟨y1, y2⟩ := idA_is (g := p.g) (k := p.k) (i := a.b) h1 hb.1 (by omega)
      exact ⟨y1, y2, by unfold all4; rw [(h5 a.i).1, (h5 a.i).2, (h5 a.b).1, (h5 a.b).2]; rfl⟩
  refine ⟨_, T.path_eval (wayA p a (tkA p a)) ⟨hg, x1, x2, (h5 _).1, g1'.1, g1'.2.1, g1'.2.2, rfl, trivial⟩, ⟨⟨h1, h2, h3, h4, h5⟩, ?_, ?_, ?_⟩, ?_⟩
  · show 0 ≤ IntKind.wrap .i64 (a.i + 1); rw [hw]; omega
  · show IntKind.wrap .i64 (a.i + 1) ≤ p.c; rw [hw]; omega
  · show best p.g p.m (IntKind.wrap .i64 (a.i + 1)) (bif tkA p a then a.i else a.b)
    rw [hw]
    cases q : tkA p a
    · show best p.g p.m (a.i + 1) a.b
      rcases h8 with h8 | h8
      · refine .inl ⟨h8.1, fun j j0 j1 => ?_⟩
        by_cases e : j = a.i
        · subst e
          intro hm
          unfold tkA at q
          rw [decide_eq_true hm, h8.1] at q
          cases q
        · exact h8.2 j j0 (by omega)
      · refine .inr ⟨h8.1, by omega, h8.2.2.1, fun j j0 j1 hm => ?_⟩
        by_cases e : j = a.i
        · subst e
          unfold tkA at q
          rw [decide_eq_true hm, show (a.b == -1) = false by rw [beq_eq_false_iff_ne]; omega] at q
          exact ⟨q, fun hj => by omega⟩
        · exact h8.2.2.2 j j0 (by omega) hm
    · show best p.g p.m (a.i + 1) a.i
      unfold tkA at q
      by_cases hm : bz p.g a.i < p.m
      · rw [decide_eq_true hm] at q
        refine .inr ⟨h6, by omega, hm, fun j j0 j1 hj => ?_⟩
        by_cases e : j = a.i
        · subst e
          exact ⟨ls_false.2 (by omega), fun h => by omega⟩
        · rcases h8 with h8 | h8
          · exact absurd hj (h8.2 j j0 (by omega))
          · rw [show (a.b == -1) = false by rw [beq_eq_false_iff_ne]; omega] at q
            have q' : ls p.g a.i a.b = true := q
            rw [ls_true] at q'
            have h9 := (h8.2.2.2 j j0 (by omega) hj).1
            rw [ls_false] at h9
            exact ⟨ls_false.2 (by omega), fun _ => ls_true.2 (by omega)⟩
      · rw [decide_eq_false hm] at q; cases q
  · show (p.c - IntKind.wrap .i64 (a.i + 1)).toNat < (p.c - a.i).toNat
    rw [hw]; omega
theorem exA (p : PA) (a : AA) (h : okA p a) (hg : goA p a = false) : (rdA p a).eval = some (.exit 0, FA p a) := T.path_eval (wayAx p a) ⟨hg, trivial⟩
def okF (p : PA) (a : AA) : Prop := okG p ∧ 0 ≤ a.i ∧ a.i ≤ p.c ∧ ∀ j, 0 ≤ j → j < a.i → ¬ bz p.g j < p.m
def hitF (p : PA) (a : AA) : Bool := decide (a.i < p.c) && decide (bz p.g a.i < p.m)
def goF (p : PA) (a : AA) : Bool := decide (a.i < p.c) && !decide (bz p.g a.i < p.m)
noncomputable def outF (p : PA) (a : AA) : T (Ex × St) := .ite none (hitF p a) (.ret (.ret, FF p ⟨a.i, a.i⟩)) (.ret (.exit 0, FF p a))
theorem stepF (p : PA) (a : AA) (h : okF p a) (hg : goF p a = true) : ∃ b, stepC okF rdF FF muA p a b := by
  obtain ⟨⟨h1, h2, h3, h4, h5⟩, h6, h7, h8⟩ := id h
  unfold goF at hg
  simp only [Bool.and_eq_true, Bool.not_eq_true', decide_eq_true_eq, decide_eq_false_iff_not] at hg
  have hw : IntKind.wrap .i64 (a.i + 1) = a.i + 1 := wrap64_in (by omega) (by omega)
  obtain ⟨x1, x2⟩ := idA_is (g := p.g) (k := p.k') (i := a.i) h2 h6 (by omega)
  refine ⟨_, T.path_eval (wayF p a) ⟨decide_eq_true hg.1, x1, x2, (h5 _).1, decide_eq_false hg.2, trivial⟩, ⟨⟨h1, h2, h3, h4, h5⟩, ?_, ?_, ?_⟩, ?_⟩
  · show 0 ≤ IntKind.wrap .i64 (a.i + 1); rw [hw]; omega
  · show IntKind.wrap .i64 (a.i + 1) ≤ p.c; rw [hw]; omega
  · show ∀ j, 0 ≤ j → j < IntKind.wrap .i64 (a.i + 1) → _
    rw [hw]
    intro j j0 j1
    by_cases e : j = a.i
    · rw [e]; exact hg.2
    · exact h8 j j0 (by omega)
  · show (p.c - IntKind.wrap .i64 (a.i + 1)).toNat < (p.c - a.i).toNat
    rw [hw]; omega
theorem exF (p : PA) (a : AA) (h : okF p a) (hg : goF p a = false) (r : Ex × St) (hr : (outF p a).eval = some r) : r.1 ≠ .normal ∧ (rdF p a).eval = some r := by
  obtain ⟨⟨h1, h2, h3, h4, h5⟩, h6, h7, h8⟩ := id h
  unfold outF at hr
  cases q : hitF p a
  · rw [q] at hr
    obtain rfl := Option.some.inj hr
    refine ⟨by simp, T.path_eval (wayFx p a) ⟨?_, trivial⟩⟩
    unfold goF at hg
    unfold hitF at q
    cases e : decide (a.i < p.c)
    · rfl
    · rw [e] at hg q
      simp at hg q
      omega
  · rw [q] at hr
    obtain rfl := Option.some.inj hr
    unfold hitF at q
    simp only [Bool.and_eq_true, decide_eq_true_eq] at q
    obtain ⟨x1, x2⟩ := idA_is (g := p.g) (k := p.k') (i := a.i) h2 h6 (by omega)
    exact ⟨by simp, T.path_eval (wayFr p a) ⟨decide_eq_true q.1, x1, x2, (h5 _).1, decide_eq_true q.2, trivial⟩⟩
def room (m b : Int) : Int := if 0 > m - b then 0 else m - b
def sumR (g : List (Nat × Nat)) (m : Int) : Nat → Int
  | 0 => 0
  | n + 1 => sumR g m n + room m (bz g n)
def okS (p : PA) (a : AA) : Prop := okG p ∧ 0 ≤ a.i ∧ a.i ≤ p.c ∧ 0 ≤ p.m ∧ p.m ≤ 1099511627776 ∧ a.b = sumR p.g p.m a.i.toNat
theorem room_in {m b : Int} (h : 0 ≤ m) (hb : 0 ≤ b) : 0 ≤ room m b ∧ room m b ≤ m := by unfold room; split <;> omega
theorem bz_in {p : PA} (h : okG p) (j : Int) : 0 ≤ bz p.g j ∧ bz p.g j ≤ 1099511627776 := by
  obtain ⟨n, hn, _, v⟩ := isW_some (h.2.2.2.2 j).1
  unfold bz; omega
theorem sumR_in {p : PA} (h : okG p) (hm : 0 ≤ p.m) : ∀ n : Nat, 0 ≤ sumR p.g p.m n ∧ sumR p.g p.m n ≤ p.m * n
  | 0 => ⟨Int.le_refl 0, by simp [sumR]⟩
  | n + 1 => by
    have h1 := sumR_in h hm n
    have h2 := room_in (b := bz p.g n) hm (bz_in h n).1
    show 0 ≤ sumR p.g p.m n + room p.m (bz p.g n) ∧ sumR p.g p.m n + room p.m (bz p.g n) ≤ p.m * ((n + 1 : Nat) : Int)
    rw [show ((n + 1 : Nat) : Int) = (n : Int) + 1 by omega, Int.mul_add]
    omega
theorem stepS (p : PA) (a : AA) (h : okS p a) (hg : goA p a = true) : ∃ b, stepC okS rdB FB muA p a b := by
  obtain ⟨⟨h1, h2, h3, h4, h5⟩, h6, h7, h8, h9, h10⟩ := id h
  have hG := h.1
  have hi : a.i < p.c := of_decide_eq_true hg
  have hw : IntKind.wrap .i64 (a.i + 1) = a.i + 1 := wrap64_in (by omega) (by omega)
  obtain ⟨x1, x2⟩ := idA_is (g := p.g) (k := p.k') (i := a.i) h2 h6 (by omega)
  have hb := bz_in hG a.i
  have hr : rm p.m (bz p.g a.i) = room p.m (bz p.g a.i) := by
    unfold rm room
    rw [wrap64_in (n := p.m - bz p.g a.i) (by omega) (by omega)]
  have hr2 := room_in (b := bz p.g a.i) h8 hb.1
  have hs := sumR_in hG h8 a.i.toNat
  have hs2 : p.m * (a.i.toNat : Int) ≤ 1099511627776 * 1000 := Int.mul_le_mul h9 (by omega) (by omega) (by omega)
  have hx : IntKind.wrap .i64 (a.b + room p.m (bz p.g a.i)) = a.b + room p.m (bz p.g a.i) := wrap64_in (by omega) (by omega)
  refine ⟨_, T.path_eval (wayB p a) ⟨hg, x1, x2, (h5 _).1, ?_, trivial⟩, ⟨⟨h1, h2, h3, h4, h5⟩, ?_, ?_, h8, h9, ?_⟩, ?_⟩
  · rw [hr, wrap64_in (n := 9223372036854775807 - _) (by omega) (by omega)]
    exact decide_eq_false (by omega)
  · show 0 ≤ IntKind.wrap .i64 (a.i + 1); rw [hw]; omega
  · show IntKind.wrap .i64 (a.i + 1) ≤ p.c; rw [hw]; omega
  · show IntKind.wrap .i64 (a.b + rm p.m (bz p.g a.i)) = sumR p.g p.m (IntKind.wrap .i64 (a.i + 1)).toNat
    rw [hr, hx, hw, show (a.i + 1).toNat = a.i.toNat + 1 by omega]
    show _ = sumR p.g p.m a.i.toNat + room p.m (bz p.g (a.i.toNat : Int))
    rw [h10, show ((a.i.toNat : Nat) : Int) = a.i by omega]
  · show (p.c - IntKind.wrap .i64 (a.i + 1)).toNat < (p.c - a.i).toNat
    rw [hw]; omega
theorem exS (p : PA) (a : AA) (h : okS p a) (hg : goA p a = false) : (rdB p a).eval = some (.exit 0, FB p a) := T.path_eval (wayBx p a) ⟨hg, trivial⟩
end Go.Proofs.Ytacdadifjgppbaa.Pic
