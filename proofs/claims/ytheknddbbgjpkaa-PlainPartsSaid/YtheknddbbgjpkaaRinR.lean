/- Layer 5: what a ring's cells stand for: the values put, by their buckets. -/
import Derived.Test.YtheknddbbgjpkaaRinC
namespace Go.Proofs.Ytheknddbbgjpkaa.Rin
open Go.Eng Go.RowKit Mil
set_option linter.unusedVariables false
set_option linter.unusedSimpArgs false
abbrev Rec := Int × Int
def tpI : Int := 9223372036854775807
def bk (b : Int) (rs : List Rec) : List Rec := rs.filter fun p => decide (p.1 = b)
def wn (lo hi : Int) (rs : List Rec) : List Rec := rs.filter fun p => decide (lo ≤ p.1) && decide (p.1 < hi)
def sv (rs : List Rec) : Int := (rs.map (·.2)).sum
def boxO : List Rec → OB
  | [] => none
  | x :: r => some ((Mil.cutV (sv (x :: r)), ((x :: r).length : Int), decide (tpI < sv (x :: r))) : RB)
theorem sv_nil : sv [] = 0 := rfl
theorem sv_cons (x : Rec) (r : List Rec) : sv (x :: r) = x.2 + sv r := by simp [sv]
theorem sv_append (a b : List Rec) : sv (a ++ b) = sv a + sv b := by simp [sv, List.map_append, List.sum_append]
theorem sv_nonneg : ∀ {rs : List Rec}, (∀ p ∈ rs, 0 ≤ p.2) → 0 ≤ sv rs
  | [], _ => Int.le_refl _
  | x :: r, h => by
    rw [sv_cons]
    have := h x List.mem_cons_self
    have := sv_nonneg (rs := r) fun p hp => h p (List.mem_cons_of_mem _ hp)
    omega
theorem wn_self (lo : Int) (rs : List Rec) : wn lo lo rs = [] := by
  unfold wn
  rw [List.filter_eq_nil_iff]
  intro p _ h
  simp only [Bool.and_eq_true, decide_eq_true_eq] at h
  omega
theorem wn_next {lo j : Int} (h : lo ≤ j) : ∀ rs : List Rec, sv (wn lo (j + 1) rs) = sv (wn lo j rs) + sv (bk j rs) ∧ (wn lo (j + 1) rs).length = (wn lo j rs).length + (bk j rs).length
  | [] => ⟨rfl, rfl⟩
  | x :: r => by
    obtain ⟨i1, i2⟩ := wn_next h r
    unfold wn bk at *
    simp only [List.filter_cons]
    rcases Int.lt_trichotomy x.1 j with q | q | q
    · rw [if_neg (show ¬ decide (x.1 = j) = true by simp; omega)]
      by_cases q2 : lo ≤ x.1
      · rw [if_pos (by simp; omega), if_pos (by simp; omega), sv_cons, sv_cons, List.length_cons, List.length_cons]; omega
      · rw [if_neg (by simp; omega), if_neg (by simp; omega)]; exact ⟨i1, i2⟩
    · rw [if_pos (show decide (x.1 = j) = true by simp; omega), if_pos (by simp; omega), if_neg (by simp; omega), sv_cons, sv_cons, List.length_cons, List.length_cons]; omega
    · rw [if_neg (show ¬ decide (x.1 = j) = true by simp; omega), if_neg (by simp; omega), if_neg (by simp; omega)]; exact ⟨i1, i2⟩
theorem bk_append (b : Int) (rs : List Rec) (c v : Int) : bk b (rs ++ [(c, v)]) = if c = b then bk b rs ++ [(c, v)] else bk b rs := by
  unfold bk
  rw [List.filter_append]
  by_cases e : c = b
  · rw [if_pos e]; simp [e]
  · rw [if_neg e]; simp [e]
theorem cutV_add {s v : Int} (h1 : 0 ≤ s) (h2 : 0 ≤ v) : Mil.cutV (Mil.cutV s + v) = Mil.cutV (s + v) := by unfold Mil.cutV; repeat' split <;> try omega
theorem cutE_add {s v : Int} (h1 : 0 ≤ s) (h2 : 0 ≤ v) : (decide (tpI < s) || (Mil.cutE (Mil.cutV s + v) == 2)) = decide (tpI < s + v) := by
  unfold Mil.cutE Mil.cutV tpI
  by_cases q : 9223372036854775807 < s
  · rw [decide_eq_true q, decide_eq_true (show 9223372036854775807 < s + v by omega)]; rfl
  · rw [decide_eq_false q, if_neg q, if_neg (show ¬ s < -9223372036854775808 by omega), Bool.false_or]
    by_cases q2 : 9223372036854775807 < s + v
    · rw [decide_eq_true q2, if_pos (.inl q2)]; rfl
    · rw [decide_eq_false q2, if_neg (by omega)]; rfl
theorem cutV_cut {s v : Int} (h1 : 0 ≤ s) (h2 : 0 ≤ v) : Mil.cutV (Mil.cutV s + Mil.cutV v) = Mil.cutV (s + v) := by unfold Mil.cutV; repeat' split <;> try omega
theorem cutE_cut {s v : Int} (h1 : 0 ≤ s) (h2 : 0 ≤ v) : (decide (tpI < s) || decide (tpI < v) || (Mil.cutE (Mil.cutV s + Mil.cutV v) == 2)) = decide (tpI < s + v) := by
  unfold Mil.cutE Mil.cutV tpI
  by_cases q : 9223372036854775807 < s
  · rw [decide_eq_true q, decide_eq_true (show 9223372036854775807 < s + v by omega)]; rfl
  · by_cases q1 : 9223372036854775807 < v
    · rw [decide_eq_true q1, decide_eq_true (show 9223372036854775807 < s + v by omega), Bool.or_true]; rfl
    · rw [decide_eq_false q, decide_eq_false q1, if_neg q, if_neg (show ¬ s < -9223372036854775808 by omega), if_neg q1, if_neg (show ¬ v < -9223372036854775808 by omega), Bool.false_or, Bool.false_or]
      by_cases q2 : 9223372036854775807 < s + v
      · rw [decide_eq_true q2, if_pos (.inl q2)]; rfl
      · rw [decide_eq_false q2, if_neg (by omega)]; rfl
theorem cutV_in {s : Int} (h1 : 0 ≤ s) : 0 ≤ Mil.cutV s ∧ Mil.cutV s ≤ 9223372036854775807 := by unfold Mil.cutV; repeat' split <;> try omega
/-- the cells of a ring of n cells, newest bucket nw, hold the records rs -/
structure RepR (n : Nat) (nw : Int) (l : List OB) (rs : List Rec) : Prop where
  n0 : 0 < n
  n1 : n ≤ 600
  w0 : -1 ≤ nw
  w1 : nw ≤ 1099511627776
  ln : l.length = n
  recs : ∀ p ∈ rs, 0 ≤ p.1 ∧ p.1 ≤ nw ∧ 0 ≤ p.2
  len : rs.length ≤ 1000000
  cells : ∀ b, 0 ≤ b → nw - n < b → b ≤ nw → cellR n l b = boxO (bk b rs)
theorem RepR.bkn {n : Nat} {nw : Int} {l : List OB} {rs : List Rec} (h : RepR n nw l rs) (b : Int) : 0 ≤ sv (bk b rs) ∧ (bk b rs).length ≤ rs.length := by
  refine ⟨sv_nonneg fun p hp => (h.recs p ((List.mem_filter.1 hp).1)).2.2, List.length_filter_le _ _⟩
theorem RepR.wnn {n : Nat} {nw : Int} {l : List OB} {rs : List Rec} (h : RepR n nw l rs) (lo hi : Int) : 0 ≤ sv (wn lo hi rs) ∧ (wn lo hi rs).length ≤ rs.length := by
  refine ⟨sv_nonneg fun p hp => (h.recs p ((List.mem_filter.1 hp).1)).2.2, List.length_filter_le _ _⟩
theorem boxAt_is (l : List OB) (k : Nat) : boxAt KB l k = ((l.getD k none).getD ((0, 0, false) : RB) : RB) := by
  unfold boxAt
  rw [List.getD_eq_getElem?_getD]
  cases e : l[k]? with
  | none => rfl
  | some o => cases o <;> rfl
theorem boxO_add {xs : List Rec} (hx : ∀ p ∈ xs, 0 ≤ p.2) {b v : Int} (hv : 0 ≤ v) (hl : xs.length ≤ 1000000) : some (addR ((boxO xs).getD ((0, 0, false) : RB)) v) = boxO (xs ++ [(b, v)]) := by
  cases xs with
  | nil =>
    show some (addR ((0, 0, false) : RB) v) = some _
    congr 1
    unfold addR
    refine Prod.ext ?_ (Prod.ext ?_ ?_)
    · show Mil.cutV (0 + v) = Mil.cutV (sv [(b, v)]); simp [sv]
    · rfl
    · show (bif (bif false then true else false) then true else Mil.cutE (0 + v) == 2) = decide (tpI < sv [(b, v)])
      have := cutE_add (s := 0) (v := v) (Int.le_refl _) hv
      rw [show Mil.cutV 0 = 0 from rfl, show decide (tpI < 0) = false from rfl, Bool.false_or] at this
      rw [show sv [(b, v)] = 0 + v by simp [sv]]
      exact this
  | cons x r =>
    have hs := sv_nonneg hx
    show some (addR ((Mil.cutV (sv (x :: r)), ((x :: r).length : Int), decide (tpI < sv (x :: r))) : RB) v) = some _
    congr 1
    unfold addR
    have e : sv (x :: (r ++ [(b, v)])) = sv (x :: r) + v := by rw [show x :: (r ++ [(b, v)]) = (x :: r) ++ [(b, v)] from rfl, sv_append]; simp [sv]
    refine Prod.ext ?_ (Prod.ext ?_ ?_)
    · show Mil.cutV (Mil.cutV (sv (x :: r)) + v) = Mil.cutV (sv (x :: (r ++ [(b, v)]))); rw [e, cutV_add hs hv]
    · show IntKind.wrap .i64 (((x :: r).length : Int) + 1) = ((x :: (r ++ [(b, v)])).length : Int)
      rw [wrap64_in (by omega) (by omega)]; simp
    · show (bif (bif decide (tpI < sv (x :: r)) then true else false) then true else Mil.cutE (Mil.cutV (sv (x :: r)) + v) == 2) = decide (tpI < sv (x :: (r ++ [(b, v)])))
      rw [e, ← cutE_add hs hv]
      cases decide (tpI < sv (x :: r)) <;> rfl
/-- the records behind a value put -/
def putRs (n : Nat) (nw b v : Int) (rs : List Rec) : List Rec := bif decide (mxR nw b - n < b) then rs ++ [(b, v)] else rs
theorem mxR_ge {nw b : Int} : nw ≤ mxR nw b ∧ b ≤ mxR nw b ∧ (mxR nw b = nw ∨ mxR nw b = b) := by unfold mxR; split <;> omega
theorem RepR.box {n : Nat} {nw : Int} {l : List OB} {rs : List Rec} (h : RepR n nw l rs) {w g : Int} {ov : Bool} {b c : Int} (hb0 : 0 ≤ b) (hb1 : b ≤ 1099511627776) (hc0 : 0 ≤ c) (hc1 : mxR nw b - n < c) (hc2 : c ≤ mxR nw b) : cellR n (l1R w g n nw ov l b) c = boxO (bk c rs) := by
  obtain ⟨_, _, r1, r2⟩ := rc_ok (w := w) (g := g) (ov := ov) h.n0 h.n1 h.w0 h.w1 hb0 hb1 h.ln
  obtain ⟨m1, m2, m3⟩ := mxR_ge (nw := nw) (b := b)
  by_cases q : c ≤ nw
  · have := r1 c hc0 (by omega) q
    exact this.trans (h.cells c hc0 (by omega) q)
  · have e : bk c rs = [] := by
      unfold bk
      rw [List.filter_eq_nil_iff]
      intro p hp hq
      have := (h.recs p hp).2.1
      simp only [decide_eq_true_eq] at hq
      omega
    rw [e]
    exact r2 c (by omega) (by omega) (by omega)
theorem RepR.put {n : Nat} {nw : Int} {l : List OB} {rs : List Rec} (h : RepR n nw l rs) {w g : Int} {ov : Bool} {b v : Int} (hb0 : 0 ≤ b) (hb1 : b ≤ 1099511627776) (hv : 0 ≤ v) (hlen : rs.length < 1000000) :
    RepR n (mxR nw b) (putL w g n nw ov l b v) (putRs n nw b v rs) := by
  obtain ⟨m1, m2, m3⟩ := mxR_ge (nw := nw) (b := b)
  have hn := h.n0
  have hw0 := h.w0
  have hw1 := h.w1
  have hl1 : (l1R w g n nw ov l b).length = n := (rc_ok (w := w) (g := g) (ov := ov) h.n0 h.n1 h.w0 h.w1 hb0 hb1 h.ln).2.1
  unfold putL putRs
  cases q : decide (mxR nw b - n < b) with
  | false =>
    have q := of_decide_eq_false q
    exact ⟨h.n0, h.n1, by omega, by omega, hl1, fun p hp => by have := h.recs p hp; omega, h.len, fun c h1 h2 h3 => h.box hb0 hb1 h1 h2 h3⟩
  | true =>
    have q := of_decide_eq_true q
    refine ⟨h.n0, h.n1, by omega, by omega, by rw [cond_true, List.length_set]; exact hl1, fun p hp => ?_, ?_, fun c h1 h2 h3 => ?_⟩
    · rw [cond_true] at hp
      rcases List.mem_append.1 hp with hp | hp
      · have := h.recs p hp; omega
      · rw [List.mem_singleton] at hp
        subst hp
        exact ⟨hb0, m2, hv⟩
    · rw [cond_true, List.length_append, List.length_singleton]; omega
    · rw [cond_true, cond_true, cellR_set hn hb0 h1 hl1, bk_append]
      by_cases e : b = c
      · subst e
        rw [if_pos rfl, if_pos rfl, boxAt_is]
        have e2 := h.box (w := w) (g := g) (ov := ov) hb0 hb1 hb0 q m2
        unfold cellR at e2
        rw [e2]
        exact boxO_add (fun p hp => (h.recs p ((List.mem_filter.1 hp).1)).2.2) hv (Nat.le_trans (h.bkn b).2 h.len)
      · rw [if_neg (plc_ne hn hb0 h1 e (by omega) (by omega)), if_neg e]
        exact h.box hb0 hb1 h1 h2 h3
theorem RepR.gd {n : Nat} {nw : Int} {l : List OB} {rs : List Rec} (h : RepR n nw l rs) {w g : Int} {ov : Bool} {t v : Int} (hg : 1 ≤ g) (ht0 : 0 ≤ t) (ht1 : t ≤ 1099511627776) (hv : 0 ≤ v) (hv1 : v ≤ 9223372036854775807) : gdP w g n nw ov l t v = true := by
  obtain ⟨i0, i1⟩ := tdiv_bd ht0 hg
  unfold gdP
  rw [decide_eq_true hg]
  have h1 : gdR n nw l (Int.tdiv t g) = true := gdR_iff.2 ⟨h.n0, h.n1, h.w0, h.w1, i0, by omega, h.ln⟩
  have h2 : Sta.inR v = true := Sta.inR_iff.2 ⟨by omega, hv1⟩
  have h3 : (bif decide (mxR nw (Int.tdiv t g) - n < Int.tdiv t g) then Sta.inR (boxAt KB (l1R w g n nw ov l (Int.tdiv t g)) (plc n (Int.tdiv t g))).1 else true) = true := by
    rw [boxAt_is]
    obtain ⟨m1, m2, m3⟩ := mxR_ge (nw := nw) (b := Int.tdiv t g)
    by_cases q : mxR nw (Int.tdiv t g) - n < Int.tdiv t g
    · rw [decide_eq_true q]
      have e2 := h.box (w := w) (g := g) (ov := ov) i0 (by omega) i0 q m2
      unfold cellR at e2
      rw [e2]
      cases hx : bk (Int.tdiv t g) rs with
      | nil => exact rfl
      | cons x r =>
        have := (h.bkn (Int.tdiv t g)).1
        rw [hx] at this
        have := cutV_in this
        exact Sta.inR_iff.2 ⟨by show -9223372036854775808 ≤ Mil.cutV _; omega, this.2⟩
    · rw [decide_eq_false q]; rfl
  rw [h1, h2, h3]; rfl
end Go.Proofs.Ytheknddbbgjpkaa.Rin
