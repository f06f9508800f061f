/- Layer 21: LifePlays: what each operation leaves true; the ways through the round. -/
import Derived.Test.YtfnadebkobfemaaLifRi
namespace Go.Proofs.Ytfnadebkobfemaa.Lif
open Go.Eng Go.RowKit
set_option linter.unusedVariables false
set_option linter.unusedSimpArgs false
/-! ### operations on lists -/
theorem findI_id {id : Int} {l : List R4} {k : Nat} (h : findI id l = some k) (hk : k < l.length) : l[k].1 = id := by
  unfold findI at h
  obtain ⟨_, h2, _⟩ := List.findIdx?_eq_some_iff_getElem.1 h
  simpa using h2
theorem cnt_same {l : List R4} {k : Nat} (hk : k < l.length) {x : R4} (h : x.2.1 = l[k].2.1) : cnt (l.set k x) = cnt l := by
  have := cnt_set hk x
  have e : stay x = stay l[k] := by unfold stay; rw [h]
  rw [e] at this; omega
theorem cnt_ripe (now a : Int) (l : List R4) : cnt (ripeL now a l) = cnt l := by
  unfold ripeL
  cases (decide (a < 0) || decide (100 < a))
  · have e : ∀ p : R4, stay (ripe now a p) = stay p := fun p => by
      unfold ripe
      cases q : p.2.1 == 1 && decide (p.2.2.2 + a ≤ now)
      · rfl
      · have : p.2.1 = 1 := by rw [Bool.and_eq_true] at q; simpa using q.1
        unfold stay; rw [this]; rfl
    have : ∀ l : List R4, cnt (l.map (ripe now a)) = cnt l := fun l => by
      induction l with
      | nil => rfl
      | cons x t ih => rw [List.map_cons, cnt_cons, cnt_cons, ih, e]
    exact this l
  · rfl
theorem len_le : ∀ {l : List R4}, (∀ p ∈ l, 0 ≤ p.2.2.1 ∧ (p.2.1 = 3 → 0 < p.2.2.1)) → (l.length : Int) ≤ cnt l + sumB l
  | [], _ => by show (0 : Int) ≤ ((0 : Nat) : Int) + 0; omega
  | x :: t, h => by
    have ih := len_le (l := t) fun p hp => h p (by simp [hp])
    obtain ⟨h1, h2⟩ := h x (by simp)
    rw [cnt_cons, sumB_cons, List.length_cons]
    cases q : stay x
    · have : x.2.1 = 3 := by unfold stay at q; simpa using q
      have := h2 this
      simp only [Bool.false_eq_true, if_false]; omega
    · simp only [if_true]; omega
def st1 (l : List R4) (m b : Int) (l' : List R4) : Prop := gs l' ∧ cnt l' ≤ cnt l ∧ ∃ b', b' ≤ b ∧ LInv l' m b'
theorem ent_all {l : List R4} {m b : Int} (id : Int) (h : LInv l m b) (g : gs l) (hb : b < 1000000000) : (entP id l).2.length = l.length ∧ st1 l m (b + 1) (entP id l).2 := by
  cases hf : findI id l with
  | none =>
    have e : entP id l = (7, l) := by unfold entP; rw [hf]
    rw [e]; exact ⟨rfl, g, Nat.le_refl _, b, by omega, h⟩
  | some k =>
    have hk := findI_some hf
    have hid : l[k].1 = id := findI_id hf hk
    by_cases hs : l[k].2.1 = 2
    · have hr : id ∈ rdy l := by unfold rdy; exact List.mem_map.2 ⟨l[k], List.mem_filter.2 ⟨List.getElem_mem hk, by simpa using hs⟩, hid⟩
      obtain ⟨_, e2, _, e4⟩ := h.ent hb hr
      have e : entP id l = (0, l.set k (l[k].1, l[k].2.1, wv (l[k].2.2.1 + 1), l[k].2.2.2)) := by
        unfold entP; rw [hf]; simp only [g4_k hk]; rw [show (l[k].2.1 != 2) = false by rw [hs]; rfl]; simp only [cond_false, upd, g4_k hk, Int.toNat_natCast, Nat.zero_add]
      refine ⟨e4, ?_, ?_, b + 1, Int.le_refl _, e2⟩
      · rw [e]; exact g.set ⟨(g _ (List.getElem_mem hk)).1, fun q => by have q' : l[k].2.1 = 1 := q; omega⟩
      · rw [e]; exact Nat.le_of_eq (cnt_same hk rfl)
    · have e : entP id l = (7, l) := by
        unfold entP; rw [hf]; simp only [g4_k hk]; rw [show (l[k].2.1 != 2) = true by simpa using hs]; rfl
      rw [e]; exact ⟨rfl, g, Nat.le_refl _, b, by omega, h⟩
theorem lea_all {l : List R4} {m b : Int} (id : Int) (h : LInv l m b) (g : gs l) (hb : b < 1000000000) : st1 l m b (leaP id l).2 := by
  cases hf : findI id l with
  | none =>
    have e : leaP id l = (7, l) := by unfold leaP; rw [hf]
    rw [e]; exact ⟨g, Nat.le_refl _, b, by omega, h⟩
  | some k =>
    have hk := findI_some hf
    have hid : l[k].1 = id := findI_id hf hk
    subst hid
    obtain ⟨v1, v2, v3⟩ := h.lea hb hk
    have key : (leaP l[k].1 l).2 = l ∨ (l[k].2.2.1 ≠ 0 ∧ (leaP l[k].1 l).2 = l.set k (l[k].1, l[k].2.1, wv (l[k].2.2.1 - 1), l[k].2.2.2)) ∨ (leaP l[k].1 l).2 = l.eraseIdx k := by
      have eu : updS l k 1 = l.set k (l[k].1, l[k].2.1, wv (l[k].2.2.1 - 1), l[k].2.2.2) := by
        unfold updS; simp only [g4_k hk, Int.toNat_natCast, Nat.zero_add]
      unfold leaP
      rw [hf]
      simp only [g4_k hk]
      cases hz : l[k].2.2.1 == 0
      · have hz' : l[k].2.2.1 ≠ 0 := by simpa using hz
        simp only [cond_false]
        cases (g4 (updS l k 1) k).2.1 == 3 && (g4 (updS l k 1) k).2.2.1 == 0
        · exact .inr (.inl ⟨hz', eu⟩)
        · refine .inr (.inr ?_)
          simp only [cond_true]
          rw [eu, List.eraseIdx_set_eq]
      · exact .inl rfl
    have hw : (if 0 < l[k].2.2.1 then b - 1 else b) ≤ b := by split <;> omega
    rcases key with q | ⟨hz, q⟩ | q
    · refine ⟨by rw [q]; exact g, by rw [q]; exact Nat.le_refl _, _, hw, v2⟩
    · refine ⟨?_, ?_, _, hw, v2⟩
      · rw [q]
        have gk := g _ (List.getElem_mem hk)
        exact g.set ⟨gk.1, fun q => absurd (gk.2 q) hz⟩
      · rw [q]; exact Nat.le_of_eq (cnt_same hk rfl)
    · refine ⟨by rw [q]; exact g.erase k, ?_, _, hw, v2⟩
      rw [q]
      have := cnt_erase hk
      omega
theorem cra_all {l : List R4} {m b : Int} (i : Int) (h : LInv l m b) (g : gs l) : st1 l m b (craP i l).2 := by
  unfold craP
  cases hc : (decide (i < 0) || decide ((l.length : Int) ≤ i))
  · simp only [Bool.or_eq_false_iff, decide_eq_false_iff_not] at hc
    have hk : i.toNat < l.length := by omega
    have := cnt_erase hk
    exact ⟨g.erase _, by simp only [cond_false]; omega, _, by have := (h.bz _ (List.getElem_mem hk)).1; omega, h.erase hk⟩
  · exact ⟨g, Nat.le_refl _, b, Int.le_refl _, h⟩
/-! ### ways -/
def kx (p : PPa) (i : Int) : Int := bits .and .i64 (g4 p.g i).1 7
def xN (p : PPa) (i : Int) : Int := (g4 p.g i).2.1
def xA (p : PPa) (i : Int) : Int := (g4 p.g i).2.2.1
def xT (p : PPa) (i : Int) : Int := (g4 p.g i).2.2.2
def wSb : Bool → List Bool
  | true => [true, true]
  | false => [false, true]
def pS (x : Int) : Bool → List (Bool × Bool)
  | true => [(x == 0, true), (x == 0, true)]
  | false => [(x == 0, false), (x == 1, true)]
def pR (x : Int) : List (Bool × Bool) := [(x == 0, false), (x == 1, false), (x == 2, true)]
def pEb : Bool → List Bool
  | true => [false, false, false, true, true]
  | false => [false, false, false, false, true]
def pE (x : Int) : Bool → List (Bool × Bool)
  | true => [(x == 0, false), (x == 1, false), (x == 2, false), (x == 3, true), (x == 3, true)]
  | false => [(x == 0, false), (x == 1, false), (x == 2, false), (x == 3, false), (x == 4, true)]
def pLb : Bool → List Bool
  | true => [false, false, false, false, false, true, true]
  | false => [false, false, false, false, false, false, true]
def pL (x : Int) : Bool → List (Bool × Bool)
  | true => [(x == 0, false), (x == 1, false), (x == 2, false), (x == 3, false), (x == 4, false), (x == 5, true), (x == 5, true)]
  | false => [(x == 0, false), (x == 1, false), (x == 2, false), (x == 3, false), (x == 4, false), (x == 5, false), (x == 6, true)]
def pC (x : Int) : List (Bool × Bool) := [(x == 0, false), (x == 1, false), (x == 2, false), (x == 3, false), (x == 4, false), (x == 5, false), (x == 6, false)]
def tlB : List Bool := [true, true, true, true, true, true, true, true, true, false]
def tlC (n : Nat) (L : List R4) (k : Nat) (R : List R4) : List (Bool × Bool) := [(okN n L, true), (decide (0 + L.length ≤ L.length) && decide (0 + k ≤ R.length), true), (eqPods ((L.drop 0).take L.length) ((R.drop 0).take k), true), (okN n L, true), (okN k R, true), (decide (0 + (rdy L).length ≤ (rdy L).length) && decide (0 + (rdy R).length ≤ (rdy R).length), true), (eqInts (((rdy L).drop 0).take (rdy L).length) (((rdy R).drop 0).take (rdy R).length), true), (okN n L, true), (okN k R, true), ((cnt L : Int) != (cnt R : Int), false)]
def tkB : List Bool := [false, true, false, true, true, false, true, false, true, false, true, true, false, true, false, true, false]
def tkC (c : Bool) (n : Nat) (L : List R4) (k : Nat) (R : List R4) : List (Bool × Bool) := [(c, false), (okN n L, true), (c, false), (decide (0 + L.length ≤ L.length) && decide (0 + k ≤ R.length), true), (eqPods ((L.drop 0).take L.length) ((R.drop 0).take k), true), (bif c then true else false, false), (okN n L, true), (bif c then true else false, false), (okN k R, true), (bif c then true else false, false), (decide (0 + (rdy L).length ≤ (rdy L).length) && decide (0 + (rdy R).length ≤ (rdy R).length), true), (eqInts (((rdy L).drop 0).take (rdy L).length) (((rdy R).drop 0).take (rdy R).length), true),
  (bif bif c then true else false then true else false, false), (okN n L, true), (bif bif c then true else false then true else false, false), (okN k R, true), (bif bif bif c then true else false then true else false then true else (cnt L : Int) != (cnt R : Int), false)]
def hdC (p : PPa) (a : APa) : List (Bool × Bool) := [(decide (a.i < (p.kg : Int)), true), (idR p.g p.kg a.i, true), (ldR p.g a.i, true)]
def i1 (a : APa) : Int := IntKind.wrap .i64 (a.i + 1)
theorem wayP1 (p : PPa) (a : APa) (e : Bool) : T.path ([true, true, true] ++ (wSb e ++ ([true, true, true, true] ++ tkB))) (rdPa p a) = some (hdC p a ++ (pS (kx p a.i) e ++ ([(okSc a.m a.n a.l, true), (outS (xN p a.i) (xT p a.i), true), (invC okQ a.w (a.k, a.r), true), (outS (xN p a.i) (xT p a.i), true)] ++ tkC ((1 : Int) != 1) a.n a.l a.k a.r)), (.normal, FPa p ⟨a.m, a.n, a.l, a.w, a.k, a.r, i1 a⟩)) := by cases e <;> kernel_rfl
theorem wayP0 (p : PPa) (a : APa) (e : Bool) : T.path ([true, true, true] ++ (wSb e ++ ([true, false, true, false] ++ tkB))) (rdPa p a) = some (hdC p a ++ (pS (kx p a.i) e ++ ([(okSc a.m a.n a.l, true), (outS (xN p a.i) (xT p a.i), false), (invC okQ a.w (a.k, a.r), true), (outS (xN p a.i) (xT p a.i), false)] ++ tkC ((0 : Int) != 0) (scaleL a.m a.l (xN p a.i) (xT p a.i)).length (scaleL a.m a.l (xN p a.i) (xT p a.i)) (scaleL a.w a.r (xN p a.i) (xT p a.i)).length (scaleL a.w a.r (xN p a.i) (xT p a.i)))),
    (.normal, FPa p ⟨scaleM a.m a.l (xN p a.i), (scaleL a.m a.l (xN p a.i) (xT p a.i)).length, scaleL a.m a.l (xN p a.i) (xT p a.i), scaleM a.w a.r (xN p a.i), (scaleL a.w a.r (xN p a.i) (xT p a.i)).length, scaleL a.w a.r (xN p a.i) (xT p a.i), i1 a⟩)) := by cases e <;> kernel_rfl
theorem wayP2 (p : PPa) (a : APa) : T.path ([true, true, true] ++ ([false, false, true] ++ ([true, true] ++ tlB))) (rdPa p a) = some (hdC p a ++ (pR (kx p a.i) ++ ([(okN a.n a.l && okTb a.l, true), (okN a.k a.r && okTb a.r, true)] ++ tlC a.n (ripeL (xT p a.i) (xA p a.i) a.l) a.k (ripeL (xT p a.i) (xA p a.i) a.r))), (.normal, FPa p ⟨a.m, a.n, ripeL (xT p a.i) (xA p a.i) a.l, a.w, a.k, ripeL (xT p a.i) (xA p a.i) a.r, i1 a⟩)) := by kernel_rfl
theorem wayP3 (p : PPa) (a : APa) (e : Bool) : T.path ([true, true, true] ++ (pEb e ++ ([true, true] ++ tkB))) (rdPa p a) = some (hdC p a ++ (pE (kx p a.i) e ++ ([(okN a.n a.l, true), (okN a.k a.r, true)] ++ tkC ((entP (xN p a.i) a.l).1 != (entP (xN p a.i) a.r).1) a.n (entP (xN p a.i) a.l).2 a.k (entP (xN p a.i) a.r).2)), (.normal, FPa p ⟨a.m, a.n, (entP (xN p a.i) a.l).2, a.w, a.k, (entP (xN p a.i) a.r).2, i1 a⟩)) := by cases e <;> kernel_rfl
def le0 (x : Int) : Bool → Int
  | true => 0
  | false => x
theorem wayP5 (p : PPa) (a : APa) (e f : Bool) : T.path ([true, true, true] ++ (pLb e ++ ([true, true, f] ++ tkB))) (rdPa p a) = some (hdC p a ++ (pL (kx p a.i) e ++ ([(okN a.n a.l, true), (okN a.k a.r, true), (leO (xN p a.i) a.r, f)] ++ tkC ((leaP (xN p a.i) a.l).1 != le0 (leaP (xN p a.i) a.r).1 f) (leaP (xN p a.i) a.l).2.length (leaP (xN p a.i) a.l).2 (leaP (xN p a.i) a.r).2.length (leaP (xN p a.i) a.r).2)),
    (.normal, FPa p ⟨a.m, (leaP (xN p a.i) a.l).2.length, (leaP (xN p a.i) a.l).2, a.w, (leaP (xN p a.i) a.r).2.length, (leaP (xN p a.i) a.r).2, i1 a⟩)) := by cases e <;> cases f <;> kernel_rfl
theorem wayP7 (p : PPa) (a : APa) (f : Bool) : T.path ([true, true, true] ++ ([false, false, false, false, false, false, false] ++ ([true, true, f, false] ++ tkB))) (rdPa p a) = some (hdC p a ++ (pC (kx p a.i) ++ ([(okN a.n a.l, true), (okN a.k a.r, true), (cB a.k (xN p a.i), f), (peE (craP (xN p a.i) a.l).1.1 (craP (xN p a.i) a.r).1.1, false)] ++ tkC ((craP (xN p a.i) a.l).1.2 != (craP (xN p a.i) a.r).1.2) (craP (xN p a.i) a.l).2.length (craP (xN p a.i) a.l).2 (craP (xN p a.i) a.r).2.length (craP (xN p a.i) a.r).2)),
    (.normal, FPa p ⟨a.m, (craP (xN p a.i) a.l).2.length, (craP (xN p a.i) a.l).2, a.w, (craP (xN p a.i) a.r).2.length, (craP (xN p a.i) a.r).2, i1 a⟩)) := by cases f <;> kernel_rfl
theorem wayPx (p : PPa) (a : APa) : T.path [false] (rdPa p a) = some ([(decide (a.i < (p.kg : Int)), false)], (.exit 0, FPa p a)) := by kernel_rfl
end Go.Proofs.Ytfnadebkobfemaa.Lif
