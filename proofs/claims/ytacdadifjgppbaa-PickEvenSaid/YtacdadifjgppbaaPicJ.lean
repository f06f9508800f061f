/- Layer 19: PickEven, its outer loops. -/
import Derived.Test.YtacdadifjgppbaaPicI
namespace Go.Proofs.Ytacdadifjgppbaa.Pic
open Go.Eng Go.RowKit Go.Flt Lod Brk
set_option linter.unusedVariables false
set_option linter.unusedSimpArgs false
def pI (p : PO) (a : AO) : PI := ⟨p.p, p.m, p.k, a.W, a.n, a.e, a.i⟩
noncomputable def eI (p : PO) (a : AO) : AI := endW (nxtC okI goI rdI FI muI (pI p a)) ⟨[], 0, 0⟩
noncomputable def zI (p : PO) (a : AO) : List (Nat × Nat) := List.take (eI p a).j (List.drop 0 (eI p a).z)
noncomputable def bO (p : PO) (a : AO) : Int := (eA (zI p a) p.m).b
theorem wayO (p : PO) (a : AO) : T.path [true, true, true, true, false, true, true, false, false, false, false, true, true, true, true] (rdO p a) = some ([(decide (a.i < p.k), true), (invC okI (pI p a) ⟨[], 0, 0⟩, true), (decide (0 + (eI p a).j ≤ (eI p a).z.length), true), (invC okS (pA (zI p a) (clampL p.m)) ⟨0, 0⟩, true),
  ((eS (zI p a) (clampL p.m)).b != IntKind.wrap .i64 (IntKind.wrap .i64 (p.p * p.m) - a.e), false), (decide (0 + (eI p a).j ≤ (eI p a).z.length), true), (invC okA (pA (zI p a) p.m) ⟨-1, 0⟩, true), (bif !(decide (0 ≤ bO p a) == decide (a.e < IntKind.wrap .i64 (p.p * p.m))) then true else decide (p.p ≤ bO p a), false),
  (decide (bO p a < 0), false), (p.p == 0, false), (bO p a != Int.tmod a.e p.p, false), (idI a.W a.n (bO p a), true), (ldI a.W (bO p a), true), (idI a.W a.n (bO p a), true), (ldI a.W (bO p a), true)],
  (.normal, FO p ⟨a.W.set (0 + (bO p a).toNat) (IntKind.wrap .i64 (gI a.W (bO p a) + 1)), a.n, IntKind.wrap .i64 (a.e + 1), IntKind.wrap .i64 (a.i + 1)⟩)) := by kernel_rfl
theorem wayOb (p : PO) (a : AO) : T.path [true, true, true, true, false, true, true, false, true] (rdO p a) = some ([(decide (a.i < p.k), true), (invC okI (pI p a) ⟨[], 0, 0⟩, true), (decide (0 + (eI p a).j ≤ (eI p a).z.length), true), (invC okS (pA (zI p a) (clampL p.m)) ⟨0, 0⟩, true),
  ((eS (zI p a) (clampL p.m)).b != IntKind.wrap .i64 (IntKind.wrap .i64 (p.p * p.m) - a.e), false), (decide (0 + (eI p a).j ≤ (eI p a).z.length), true), (invC okA (pA (zI p a) p.m) ⟨-1, 0⟩, true), (bif !(decide (0 ≤ bO p a) == decide (a.e < IntKind.wrap .i64 (p.p * p.m))) then true else decide (p.p ≤ bO p a), false),
  (decide (bO p a < 0), true)], (.exit 0, FO p a)) := by kernel_rfl
theorem wayOx (p : PO) (a : AO) : T.path [false] (rdO p a) = some ([(decide (a.i < p.k), false)], (.exit 0, FO p a)) := by kernel_rfl
def g1T (p : PT) (a : AT) : Bool := decide (p.m < gI p.W a.i) == false && true
def c1T (p : PT) (a : AT) : Bool := bif decide (p.m < gI p.W a.i) then true else decide (gI p.W a.i < IntKind.wrap .i64 (Int.tdiv p.e p.p))
theorem wayT (p : PT) (a : AT) : T.path [true, true, true, true, true, false, false, true, true, false, false, false] (rdT p a) = some ([(decide (a.i < p.p), true), (idI p.W p.n a.i, true), (ldI p.W a.i, true), (bif g1T p a then idI p.W p.n a.i else true, true), (bif g1T p a then ldI p.W a.i else true, true), (decide (p.m < gI p.W a.i), false), (p.p == 0, false),
  (bif c1T p a == false && true then idI p.W p.n a.i else true, true), (bif c1T p a == false && true then ldI p.W a.i else true, true), (c1T p a, false), (p.p == 0, false), (bif c1T p a then true else decide (IntKind.wrap .i64 (IntKind.wrap .i64 (Int.tdiv p.e p.p) + 1) < gI p.W a.i), false)], (.normal, FT p ⟨IntKind.wrap .i64 (a.i + 1)⟩)) := by kernel_rfl
theorem wayTx (p : PT) (a : AT) : T.path [false] (rdT p a) = some ([(decide (a.i < p.p), false)], (.exit 4, FT p a)) := by kernel_rfl
/-- so many are spread -/
def even (W : List Int) (p e : Int) : Prop := p = W.length ∧ ∀ j : Int, 0 ≤ j → j < p → gI W j = e / p + (if j < e % p then 1 else 0)
def okB19 (p m : Int) : Prop := 1 ≤ p ∧ p ≤ 20 ∧ 0 ≤ m ∧ m ≤ 10
theorem loads_len (W : List Int) : (loads W).length = W.length := by unfold loads; exact List.length_map _
theorem loads_g1 {W : List Int} {j : Int} (h0 : 0 ≤ j) (h : j < W.length) : g1 (loads W) j = (fW (gI W j), fW 0) := by
  have hn : j.toNat < W.length := by omega
  rw [gI_get (n := j.toNat) hn (by omega)]
  unfold g1
  rw [List.getD_eq_getElem?_getD, Nat.zero_add, loads_get hn]; rfl
theorem qr {p m e : Int} (h : okB19 p m) (he : 0 ≤ e ∧ e ≤ p * m) : 0 ≤ e / p ∧ e / p ≤ 10 ∧ 0 ≤ e % p ∧ e % p < p ∧ p * (e / p) + e % p = e ∧ (e / p < m ∨ (e / p = m ∧ e % p = 0)) ∧ (e < p * m → e / p < m) ∧ (¬ e < p * m → e / p = m ∧ e % p = 0) := by
  obtain ⟨h1, h2, h3, h4⟩ := h
  have a1 := Int.ediv_nonneg (a := e) (b := p) he.1 (by omega)
  have a2 := Int.emod_nonneg e (b := p) (by omega)
  have a3 := Int.emod_lt_of_pos e (b := p) (by omega)
  have a4 := Int.mul_ediv_add_emod e p
  have a5 : e < p * m → e / p < m := fun h => (Int.ediv_lt_iff_lt_mul (by omega)).2 (by rw [Int.mul_comm]; exact h)
  have a6 : ¬ e < p * m → e / p = m ∧ e % p = 0 := fun h => by
    have : e = p * m := by omega
    rw [this]
    exact ⟨Int.mul_ediv_cancel_left _ (by omega), Int.mul_emod_right _ _⟩
  have a7 : e / p ≤ m := by
    by_cases q : e < p * m
    · exact Int.le_of_lt (a5 q)
    · exact Int.le_of_eq (a6 q).1
  refine ⟨a1, by omega, a2, a3, a4, ?_, a5, a6⟩
  by_cases q : e < p * m
  · exact .inl (a5 q)
  · exact .inr (a6 q)
theorem even_in {W : List Int} {p m e : Int} (h : okB19 p m) (he : 0 ≤ e ∧ e ≤ p * m) (hW : even W p e) {j : Int} (h0 : 0 ≤ j) (h1 : j < p) : 0 ≤ gI W j ∧ gI W j ≤ m := by
  have := qr h he
  rw [hW.2 j h0 h1]
  split <;> omega
theorem even_bz {W : List Int} {p m e : Int} (h : okB19 p m) (he : 0 ≤ e ∧ e ≤ p * m) (hW : even W p e) {j : Int} (h0 : 0 ≤ j) (h1 : j < p) : bz (loads W) j = gI W j ∧ wt (loads W) j = 0 := by
  have h2 := even_in h he hW h0 h1
  have h3 := h.2.2.2
  have h4 := hW.1
  unfold bz wt
  rw [loads_g1 h0 (by omega)]
  exact ⟨vfw h2.1 (by omega), vfw (t := 0) (by decide) (by decide)⟩
theorem even_okL {W : List Int} {p m e : Int} (h : okB19 p m) (hW : even W p e) : okL (loads W) := by
  have h4 := hW.1
  have h5 := h.2.1
  have key : ∀ x ∈ loads W, isW x.1 = true ∧ isW x.2 = true := by
    intro x hx
    unfold loads at hx
    obtain ⟨b, _, e⟩ := List.mem_map.1 hx
    rw [← e]
    show isW (fW b) = true ∧ isW (fW 0) = true
    rw [isW_fW, isW_fW]
    exact ⟨rfl, rfl⟩
  exact okL_of (by rw [loads_len]; omega) key
theorem even_sum {W : List Int} {p m e : Int} (h : okB19 p m) (he : 0 ≤ e ∧ e ≤ p * m) (hW : even W p e) : ∀ n : Nat, (n : Int) ≤ p → sumR (loads W) m n = n * (m - e / p) - (if (n : Int) ≤ e % p then (n : Int) else e % p)
  | 0, _ => by
    have := qr h he
    show (0 : Int) = _
    rw [if_pos (by omega)]; simp
  | n + 1, hn => by
    have hq := qr h he
    show sumR (loads W) m n + room m (bz (loads W) n) = _
    rw [even_sum h he hW n (by omega), (even_bz h he hW (j := n) (by omega) (by omega)).1, hW.2 n (by omega) (by omega), show ((n + 1 : Nat) : Int) = (n : Int) + 1 by omega, Int.add_mul, Int.one_mul]
    generalize (n : Int) * (m - e / p) = X
    unfold room
    by_cases c : (n : Int) < e % p
    · rw [if_pos c, if_pos (show (n : Int) ≤ e % p by omega), if_pos (show (n : Int) + 1 ≤ e % p by omega)]
      rw [if_neg (by omega)]; omega
    · rw [if_neg c, if_neg (show ¬ (n : Int) + 1 ≤ e % p by omega)]
      rw [if_neg (show ¬ 0 > m - (e / p + 0) by omega)]
      by_cases d : (n : Int) ≤ e % p
      · rw [if_pos d]; omega
      · rw [if_neg d]; omega
theorem even_best {W : List Int} {p m e b : Int} (h : okB19 p m) (he : 0 ≤ e ∧ e ≤ p * m) (hW : even W p e) (hb : best (loads W) m (loads W).length b) : (e < p * m → b = e % p) ∧ (¬ e < p * m → b = -1) := by
  have hq := qr h he
  have hl : ((loads W).length : Int) = p := by rw [loads_len]; exact hW.1.symm
  have hr := even_bz h he hW (j := e % p) hq.2.2.1 hq.2.2.2.1
  have hr2 := hW.2 (e % p) hq.2.2.1 hq.2.2.2.1
  rw [if_neg (Int.lt_irrefl _)] at hr2
  refine ⟨fun hm => ?_, fun hm => ?_⟩
  · have hlt := hq.2.2.2.2.2.2.1 hm
    rcases hb with q | q
    · exact absurd (show bz (loads W) (e % p) < m by omega) (q.2 _ hq.2.2.1 (by omega))
    · obtain ⟨b0, b1, b2, b3⟩ := q
      have hbb := even_bz h he hW (j := b) b0 (by omega)
      have hb2 := hW.2 b b0 (by omega)
      obtain ⟨c1, c2⟩ := b3 (e % p) hq.2.2.1 (by omega) (by omega)
      rw [ls_false] at c1
      rcases Int.lt_or_le b (e % p) with d | d
      · rw [if_pos d] at hb2; omega
      · rw [if_neg (by omega)] at hb2
        rcases Int.lt_or_eq_of_le d with d2 | d2
        · have := c2 d2
          rw [ls_true] at this
          omega
        · exact d2.symm
  · have hx := hq.2.2.2.2.2.2.2 hm
    rcases hb with q | q
    · exact q.1
    · have hbb := even_bz h he hW (j := b) q.1 (by omega)
      have hb2 := hW.2 b q.1 (by omega)
      have h0 := q.1
      rw [hx.2, if_neg (by omega)] at hb2
      have := q.2.2.1
      omega
theorem gI_set {W : List Int} {k j v : Int} (hk : 0 ≤ k) (hk2 : k < W.length) (hj : 0 ≤ j) : gI (W.set (0 + k.toNat) v) j = if j = k then v else gI W j := by
  unfold gI
  rw [List.getD_eq_getElem?_getD, List.getD_eq_getElem?_getD, Nat.zero_add, Nat.zero_add, List.getElem?_set]
  by_cases e : j = k
  · subst e
    rw [if_pos rfl, if_pos (by omega), if_pos rfl]; rfl
  · rw [if_neg (by omega), if_neg e]
theorem even_next {W : List Int} {p m e : Int} (h : okB19 p m) (he : 0 ≤ e ∧ e < p * m) (hW : even W p e) : even (W.set (0 + (e % p).toNat) (gI W (e % p) + 1)) p (e + 1) := by
  have hq := qr h ⟨he.1, by omega⟩
  obtain ⟨q1, q2, q3, q4, q5, -⟩ := hq
  have hl := hW.1
  refine ⟨by rw [List.length_set]; exact hl, fun j j0 j1 => ?_⟩
  rw [gI_set q3 (by omega) j0]
  have hr := hW.2 (e % p) q3 q4
  rw [if_neg (Int.lt_irrefl _)] at hr
  have hj := hW.2 j j0 j1
  by_cases c : e % p + 1 < p
  · obtain ⟨u1, u2⟩ := (Int.ediv_emod_unique (a := e + 1) (b := p) (q := e / p) (r := e % p + 1) (by omega)).2 ⟨by omega, by omega, c⟩
    rw [u1, u2]
    by_cases d : j = e % p
    · rw [if_pos d, if_pos (by omega)]; omega
    · rw [if_neg d, hj]
      by_cases f : j < e % p
      · rw [if_pos f, if_pos (by omega)]
      · rw [if_neg f, if_neg (by omega)]
  · have e3 : p * (e / p + 1) = p * (e / p) + p := by rw [Int.mul_add, Int.mul_one]
    obtain ⟨u1, u2⟩ := (Int.ediv_emod_unique (a := e + 1) (b := p) (q := e / p + 1) (r := 0) (by omega)).2 ⟨by omega, by omega, by omega⟩
    rw [u1, u2, if_neg (show ¬ j < 0 by omega)]
    by_cases d : j = e % p
    · rw [if_pos d]; omega
    · rw [if_neg d, hj, if_pos (by omega)]; omega
end Go.Proofs.Ytacdadifjgppbaa.Pic
