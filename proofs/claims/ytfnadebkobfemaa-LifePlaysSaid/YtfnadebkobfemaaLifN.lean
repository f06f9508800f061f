/- Layer 21: what holds of pods, whatever is done to them. -/
import Derived.Test.YtfnadebkobfemaaLifV
import Derived.Test.YtfnadebkobfemaaYes
namespace Go.Proofs.Ytfnadebkobfemaa.Lif
open Go.Eng
set_option linter.unusedVariables false
set_option linter.unusedSimpArgs false
def idsP (l : List R4) : List Int := l.map (·.1)
def sumB (l : List R4) : Int := (l.map fun p => p.2.2.1).sum
theorem cut {l : List R4} {k : Nat} (h : k < l.length) : l = l.take k ++ l[k] :: l.drop (k + 1) := by
  rw [← List.drop_eq_getElem_cons h, List.take_append_drop]
theorem set_cut {l : List R4} {k : Nat} (h : k < l.length) (x : R4) : l.set k x = l.take k ++ x :: l.drop (k + 1) := by
  rw [List.set_eq_take_append_cons_drop, if_pos h]
theorem erase_cut (l : List R4) (k : Nat) : l.eraseIdx k = l.take k ++ l.drop (k + 1) := List.eraseIdx_eq_take_drop_succ ..
theorem sumB_append (a b : List R4) : sumB (a ++ b) = sumB a + sumB b := by unfold sumB; rw [List.map_append, List.sum_append]
theorem sumB_cons (x : R4) (b : List R4) : sumB (x :: b) = x.2.2.1 + sumB b := by unfold sumB; rw [List.map_cons, List.sum_cons]
theorem cnt_app (a b : List R4) : cnt (a ++ b) = cnt a + cnt b := by unfold cnt; rw [List.filter_append, List.length_append]
theorem cnt_cons (x : R4) (b : List R4) : cnt (x :: b) = (if stay x then 1 else 0) + cnt b := by
  unfold cnt
  cases h : stay x
  · rw [List.filter_cons_of_neg (by rw [h]; simp)]; simp
  · rw [List.filter_cons_of_pos h, List.length_cons]; simp; omega
theorem rdy_app (a b : List R4) : rdy (a ++ b) = rdy a ++ rdy b := by unfold rdy; rw [List.filter_append, List.map_append]
theorem rdy_cons (x : R4) (b : List R4) : rdy (x :: b) = (bif x.2.1 == 2 then [x.1] else []) ++ rdy b := by
  unfold rdy
  cases h : x.2.1 == 2
  · rw [List.filter_cons_of_neg (by simpa using h)]; rfl
  · rw [List.filter_cons_of_pos (p := fun p : R4 => p.2.1 == 2) h, List.map_cons]; rfl
theorem sumB_set {l : List R4} {k : Nat} (h : k < l.length) (x : R4) : sumB (l.set k x) = sumB l - l[k].2.2.1 + x.2.2.1 := by
  have e : sumB l = sumB (l.take k ++ l[k] :: l.drop (k + 1)) := congrArg sumB (cut h)
  rw [set_cut h, e, sumB_append, sumB_append, sumB_cons, sumB_cons]; omega
theorem sumB_erase {l : List R4} {k : Nat} (h : k < l.length) : sumB (l.eraseIdx k) = sumB l - l[k].2.2.1 := by
  have e : sumB l = sumB (l.take k ++ l[k] :: l.drop (k + 1)) := congrArg sumB (cut h)
  rw [erase_cut, e, sumB_append, sumB_append, sumB_cons]; omega
theorem cnt_set {l : List R4} {k : Nat} (h : k < l.length) (x : R4) : cnt (l.set k x) + (if stay l[k] then 1 else 0) = cnt l + (if stay x then 1 else 0) := by
  have e : cnt l = cnt (l.take k ++ l[k] :: l.drop (k + 1)) := congrArg cnt (cut h)
  rw [set_cut h, e, cnt_app, cnt_app, cnt_cons, cnt_cons]; omega
theorem cnt_erase {l : List R4} {k : Nat} (h : k < l.length) : cnt (l.eraseIdx k) + (if stay l[k] then 1 else 0) = cnt l := by
  have e : cnt l = cnt (l.take k ++ l[k] :: l.drop (k + 1)) := congrArg cnt (cut h)
  rw [erase_cut, e, cnt_app, cnt_app, cnt_cons]; omega
theorem rdy_set {l : List R4} {k : Nat} (h : k < l.length) (x : R4) (h1 : x.1 = l[k].1) (h2 : x.2.1 = l[k].2.1) : rdy (l.set k x) = rdy l := by
  have e : rdy l = rdy (l.take k ++ l[k] :: l.drop (k + 1)) := congrArg rdy (cut h)
  rw [set_cut h, e, rdy_app, rdy_app, rdy_cons, rdy_cons, h1, h2]
theorem idsP_set {l : List R4} {k : Nat} (h : k < l.length) (x : R4) (h1 : x.1 = l[k].1) : idsP (l.set k x) = idsP l := by
  unfold idsP
  rw [List.map_set, h1]
  apply set_same'
  rw [List.getElem?_map, List.getElem?_eq_getElem h]; rfl
theorem idsP_erase (l : List R4) (k : Nat) : (idsP (l.eraseIdx k)).Sublist (idsP l) := (List.eraseIdx_sublist l k).map _
structure LInv (l : List R4) (m b : Int) : Prop where
  srt : (idsP l).Pairwise (· < ·)
  rng : ∀ p ∈ l, 0 ≤ p.1 ∧ p.1 < m
  bz : ∀ p ∈ l, 0 ≤ p.2.2.1 ∧ (p.2.1 = 3 → 0 < p.2.2.1)
  sm : sumB l = b
  ot : okT l
theorem sumB_nn : ∀ {l : List R4}, (∀ p ∈ l, 0 ≤ p.2.2.1) → 0 ≤ sumB l
  | [], _ => Int.le_refl _
  | x :: t, h => by
    have h1 := h x (by simp)
    have h2 := sumB_nn (l := t) fun p hp => h p (by simp [hp])
    rw [sumB_cons]; omega
theorem busy_le {l : List R4} (h : ∀ p ∈ l, 0 ≤ p.2.2.1) {k : Nat} (hk : k < l.length) : l[k].2.2.1 ≤ sumB l := by
  have e : sumB l = sumB (l.take k ++ l[k] :: l.drop (k + 1)) := congrArg sumB (cut hk)
  have h1 := sumB_nn (l := l.take k) fun p hp => h p (List.mem_of_mem_take hp)
  have h2 := sumB_nn (l := l.drop (k + 1)) fun p hp => h p (List.mem_of_mem_drop hp)
  rw [e, sumB_append, sumB_cons]; omega
/-- what is put at a pod's place -/
theorem LInv.set {l : List R4} {m b : Int} (h : LInv l m b) {k : Nat} (hk : k < l.length) {x : R4} (h1 : x.1 = l[k].1) (h2 : 0 ≤ x.2.2.1 ∧ (x.2.1 = 3 → 0 < x.2.2.1)) (h3 : 0 ≤ x.2.2.2 ∧ x.2.2.2 ≤ 1099511627776) : LInv (l.set k x) m (b - l[k].2.2.1 + x.2.2.1) := by
  have mem : ∀ p ∈ l.set k x, p ∈ l ∨ p = x := fun p hp => List.mem_or_eq_of_mem_set hp
  refine ⟨by rw [idsP_set hk x h1]; exact h.srt, fun p hp => ?_, fun p hp => ?_, by rw [sumB_set hk, h.sm], fun p hp => ?_⟩
  · rcases mem p hp with q | rfl
    · exact h.rng p q
    · rw [h1]; exact h.rng _ (List.getElem_mem hk)
  · rcases mem p hp with q | rfl
    · exact h.bz p q
    · exact h2
  · rcases mem p hp with q | rfl
    · exact h.ot p q
    · exact h3
theorem LInv.erase {l : List R4} {m b : Int} (h : LInv l m b) {k : Nat} (hk : k < l.length) : LInv (l.eraseIdx k) m (b - l[k].2.2.1) :=
  have mem : ∀ p ∈ l.eraseIdx k, p ∈ l := fun p hp => (List.eraseIdx_sublist _ _).subset hp
  ⟨h.srt.sublist (idsP_erase l k), fun p hp => h.rng p (mem p hp), fun p hp => h.bz p (mem p hp), by rw [sumB_erase hk, h.sm], fun p hp => h.ot p (mem p hp)⟩
theorem newP_memI {now : Int} : ∀ (n : Nat) {m : Int} {p : R4}, p ∈ newP now n m → m ≤ p.1 ∧ p.1 < m + n ∧ p.2.1 = 1 ∧ p.2.2.1 = 0 ∧ p.2.2.2 = now
  | 0, m, p, h => by cases h
  | n + 1, m, p, h => by
    rcases List.mem_cons.1 h with rfl | h
    · exact ⟨Int.le_refl _, by show m < m + (n + 1 : Nat); omega, rfl, rfl, rfl⟩
    · have := newP_memI n h; omega
theorem newP_srt {now : Int} : ∀ (n : Nat) (m : Int), (idsP (newP now n m)).Pairwise (· < ·)
  | 0, m => List.Pairwise.nil
  | n + 1, m => by
    refine List.Pairwise.cons (fun x hx => ?_) (newP_srt n (m + 1))
    obtain ⟨p, hp, rfl⟩ := List.mem_map.1 hx
    have := newP_memI n hp
    show m < p.1
    omega
theorem newP_sum {now : Int} : ∀ (n : Nat) (m : Int), sumB (newP now n m) = 0
  | 0, m => rfl
  | n + 1, m => by
    show sumB ((m, 1, 0, now) :: newP now n (m + 1)) = 0
    rw [sumB_cons, newP_sum n (m + 1)]; rfl
theorem LInv.new {l : List R4} {m b : Int} (h : LInv l m b) (hm : 0 ≤ m) {now : Int} (h0 : 0 ≤ now) (h1 : now ≤ 1099511627776) (n : Nat) : LInv (l ++ newP now n m) (m + n) b := by
  refine ⟨?_, fun p hp => ?_, fun p hp => ?_, by rw [sumB_append, newP_sum, h.sm]; omega, fun p hp => ?_⟩
  · unfold idsP
    rw [List.map_append]
    refine List.pairwise_append.2 ⟨h.srt, newP_srt n m, fun a ha c hc => ?_⟩
    obtain ⟨p, hp, rfl⟩ := List.mem_map.1 ha
    obtain ⟨q, hq, rfl⟩ := List.mem_map.1 hc
    have := (h.rng p hp).2
    have := (newP_memI n hq).1
    omega
  · rcases List.mem_append.1 hp with q | q
    · have := h.rng p q; omega
    · have := newP_memI n q; omega
  · rcases List.mem_append.1 hp with q | q
    · exact h.bz p q
    · obtain ⟨_, _, e1, e2, _⟩ := newP_memI n q
      rw [e1, e2]; exact ⟨Int.le_refl _, fun h => by omega⟩
  · rcases List.mem_append.1 hp with q | q
    · exact h.ot p q
    · obtain ⟨_, _, _, _, e⟩ := newP_memI n q
      rw [e]; exact ⟨h0, h1⟩
theorem spO_isSome : ∀ (l : List (R4 × Nat)) (o : Option (Nat × R4)), ((∃ x ∈ l, (x.1.2.1 == 3) = false) ∨ o.isSome = true) → (l.foldl spStep o).isSome = true
  | [], o, h => by
    rcases h with ⟨x, hx, _⟩ | h
    · cases hx
    · exact h
  | x :: t, o, h => by
    have step : o.isSome = true → (spStep o x).isSome = true := by
      intro ho
      unfold spStep
      cases x.1.2.1 == 3
      · cases o with
        | none => cases ho
        | some q => obtain ⟨j, q⟩ := q; simp only [cond_false]; cases bef q x.1 <;> rfl
      · exact ho
    refine spO_isSome t _ ?_
    rcases h with ⟨y, hy, e⟩ | h
    · rcases List.mem_cons.1 hy with rfl | hy
      · refine .inr ?_
        unfold spStep
        rw [e]
        cases o with
        | none => rfl
        | some q => obtain ⟨j, q⟩ := q; simp only [cond_false]; cases bef q y.1 <;> rfl
      · exact .inl ⟨y, hy, e⟩
    · exact .inr (step h)
theorem spO_of_cnt {l : List R4} (h : 0 < cnt l) : ∃ j q, spO l = some (j, q) := by
  have : ∃ p ∈ l, stay p = true := by
    unfold cnt at h
    obtain ⟨p, hp⟩ := List.exists_mem_of_length_pos h
    exact ⟨p, (List.mem_filter.1 hp).1, (List.mem_filter.1 hp).2⟩
  obtain ⟨p, hp, hs⟩ := this
  obtain ⟨k, hk, rfl⟩ := List.getElem_of_mem hp
  have h2 := spO_isSome l.zipIdx none (.inl ⟨(l[k], k), List.mem_zipIdx_iff_getElem?.2 (List.getElem?_eq_getElem hk), by
    unfold stay at hs
    show (l[k].2.1 == 3) = false
    cases q : l[k].2.1 == 3
    · rfl
    · have : l[k].2.1 = 3 := by simpa using q
      rw [this] at hs; cases hs⟩)
  cases ho : spO l with
  | none => unfold spO at ho; rw [ho] at h2; cases h2
  | some r => exact ⟨r.1, r.2, rfl⟩
theorem LInv.dis {l : List R4} {m b : Int} (h : LInv l m b) {now : Int} (h0 : 0 ≤ now) (h1 : now ≤ 1099511627776) : LInv (disL now l) m b ∧ cnt (disL now l) = cnt l - 1 := by
  unfold disL
  cases ho : spO l with
  | none =>
    refine ⟨h, ?_⟩
    by_cases q : 0 < cnt l
    · obtain ⟨j, r, e⟩ := spO_of_cnt q; rw [ho] at e; cases e
    · show cnt l = cnt l - 1; omega
  | some r =>
    obtain ⟨j, q⟩ := r
    have hj := spO_lt ho
    have hjq : l[j] = q := (List.getElem?_eq_some_iff.1 (spO_some ho).1).2
    have hst : stay l[j] = true := by
      have := (spO_some ho).2
      rw [hjq]; unfold stay bne; rw [this]; rfl
    have hb := h.bz _ (List.getElem_mem hj)
    simp only
    cases hd : decide (0 < q.2.2.1)
    · have hq0 : l[j].2.2.1 = 0 := by have := of_decide_eq_false hd; rw [hjq] at hb ⊢; omega
      have e1 := h.erase hj
      rw [hq0, Int.sub_zero] at e1
      refine ⟨e1, ?_⟩
      have := cnt_erase hj
      rw [hst] at this
      simp only [cond_false]
      simp only [if_true] at this
      omega
    · have hpos : 0 < q.2.2.1 := of_decide_eq_true hd
      have e1 := h.set hj (x := (q.1, 3, q.2.2.1, now)) (by rw [hjq]) ⟨Int.le_of_lt hpos, fun _ => hpos⟩ ⟨h0, h1⟩
      rw [hjq, show b - q.2.2.1 + q.2.2.1 = b by omega] at e1
      refine ⟨e1, ?_⟩
      have := cnt_set hj (q.1, 3, q.2.2.1, now)
      rw [hst] at this
      simp only [cond_true]
      have hs3 : stay ((q.1, 3, q.2.2.1, now) : R4) = false := rfl
      rw [hs3] at this
      simp only [if_true] at this
      have hff : (if false = true then 1 else 0) = 0 := rfl
      rw [hff] at this
      omega
theorem LInv.disN {m b now : Int} (h0 : 0 ≤ now) (h1 : now ≤ 1099511627776) : ∀ (n : Nat) {l : List R4}, LInv l m b → LInv (disN now n l) m b ∧ cnt (Lif.disN now n l) = cnt l - n
  | 0, l, h => ⟨h, rfl⟩
  | n + 1, l, h => by
    obtain ⟨a, c⟩ := h.dis h0 h1
    obtain ⟨d, e⟩ := LInv.disN h0 h1 n a
    refine ⟨d, ?_⟩
    show cnt (Lif.disN now n (disL now l)) = cnt l - (n + 1)
    rw [e, c]; omega
theorem cnt_new (now : Int) : ∀ (n : Nat) (m : Int), cnt (newP now n m) = n
  | 0, m => rfl
  | n + 1, m => by
    rw [show newP now (n + 1) m = (m, 1, 0, now) :: newP now n (m + 1) from rfl, cnt_cons, cnt_new now n (m + 1), show stay ((m, 1, 0, now) : R4) = true from rfl, if_pos rfl]; omega
theorem LInv.scale {l : List R4} {m b : Int} (h : LInv l m b) (hm : 0 ≤ m) {want now : Int} (hw : 0 ≤ want) (h0 : 0 ≤ now) (h1 : now ≤ 1099511627776) :
    LInv (scaleL m l want now) (scaleM m l want) b ∧ (cnt (scaleL m l want now) : Int) = want ∧ (scaleL m l want now).length ≤ l.length + want.toNat := by
  have a := h.new hm h0 h1 (want - cnt l).toNat
  obtain ⟨d, e⟩ := LInv.disN h0 h1 ((cnt l : Int) - want).toNat a
  refine ⟨d, ?_, ?_⟩
  · show (cnt (Lif.disN now ((cnt l : Int) - want).toNat (l ++ newP now (want - cnt l).toNat m)) : Int) = want
    rw [e, cnt_app, cnt_new]; omega
  · refine Nat.le_trans (disN_len _ _ _) ?_
    rw [List.length_append, newP_len]; omega
theorem LInv.ripe {l : List R4} {m b : Int} (h : LInv l m b) (now a : Int) : LInv (ripeL now a l) m b := by
  unfold ripeL
  cases (decide (a < 0) || decide (100 < a))
  · have mem : ∀ p ∈ l.map (Lif.ripe now a), ∃ q ∈ l, p.1 = q.1 ∧ p.2.2 = q.2.2 ∧ (p.2.1 = 3 → q.2.1 = 3) := by
      intro p hp
      obtain ⟨q, hq, rfl⟩ := List.mem_map.1 hp
      refine ⟨q, hq, ?_⟩
      unfold Lif.ripe
      cases q.2.1 == 1 && decide (q.2.2.2 + a ≤ now)
      · exact ⟨rfl, rfl, fun h => h⟩
      · exact ⟨rfl, rfl, fun h => by cases h⟩
    have e1 : ∀ q : R4, (Lif.ripe now a q).1 = q.1 ∧ (Lif.ripe now a q).2.2.1 = q.2.2.1 := by
      intro q
      unfold Lif.ripe
      cases q.2.1 == 1 && decide (q.2.2.2 + a ≤ now) <;> exact ⟨rfl, rfl⟩
    refine ⟨?_, fun p hp => ?_, fun p hp => ?_, ?_, ripe_okT h.ot⟩
    · have : idsP (l.map (Lif.ripe now a)) = idsP l := by
        unfold idsP
        rw [List.map_map]
        exact List.map_congr_left fun q _ => (e1 q).1
      rw [cond_false, this]; exact h.srt
    · obtain ⟨q, hq, g1, _, _⟩ := mem p hp
      rw [g1]; exact h.rng q hq
    · obtain ⟨q, hq, _, g2, g3⟩ := mem p hp
      rw [g2]; exact ⟨(h.bz q hq).1, fun e => (h.bz q hq).2 (g3 e)⟩
    · have : sumB (l.map (Lif.ripe now a)) = sumB l := by
        unfold sumB
        rw [List.map_map]
        congr 1
        exact List.map_congr_left fun q _ => (e1 q).2
      rw [cond_false, this]; exact h.sm
  · exact h
theorem ripeL_len (now a : Int) (l : List R4) : (ripeL now a l).length = l.length := by
  unfold ripeL
  cases (decide (a < 0) || decide (100 < a))
  · exact List.length_map _
  · rfl
theorem findI_at {l : List R4} (h : (idsP l).Pairwise (· < ·)) {k : Nat} (hk : k < l.length) : findI l[k].1 l = some k := by
  unfold findI
  rw [List.findIdx?_eq_some_iff_getElem]
  refine ⟨hk, by simp, fun j hj => ?_⟩
  have hp := List.pairwise_iff_getElem.1 h j k (by unfold idsP; rw [List.length_map]; omega) (by unfold idsP; rw [List.length_map]; exact hk) hj
  unfold idsP at hp
  rw [List.getElem_map, List.getElem_map] at hp
  simp; omega
theorem g4_k {l : List R4} {k : Nat} (hk : k < l.length) : g4 l (k : Int) = l[k] := g4_at (i := (k : Int)) (by simpa using hk)
theorem LInv.ent {l : List R4} {m b id : Int} (h : LInv l m b) (hb : b < 1000000000) (hr : id ∈ rdy l) : (entP id l).1 = 0 ∧ LInv (entP id l).2 m (b + 1) ∧ rdy (entP id l).2 = rdy l ∧ (entP id l).2.length = l.length := by
  unfold rdy at hr
  obtain ⟨p, hp, rfl⟩ := List.mem_map.1 hr
  obtain ⟨hp1, hp2⟩ := List.mem_filter.1 hp
  obtain ⟨k, hk, rfl⟩ := List.getElem_of_mem hp1
  have hf := findI_at h.srt hk
  have hb1 := busy_le (fun p hp => (h.bz p hp).1) hk
  rw [h.sm] at hb1
  have hb2 := h.bz _ (List.getElem_mem hk)
  have hs2 : l[k].2.1 = 2 := by simpa using hp2
  have hwv : wv (l[k].2.2.1 + 1) = l[k].2.2.1 + 1 := wrap64_in (by omega) (by omega)
  have e : entP l[k].1 l = (0, l.set k (l[k].1, l[k].2.1, l[k].2.2.1 + 1, l[k].2.2.2)) := by
    unfold entP
    rw [hf]
    simp only [g4_k hk]
    rw [show (l[k].2.1 != 2) = false by rw [hs2]; rfl]
    simp only [cond_false, upd, g4_k hk, hwv, Int.toNat_natCast, Nat.zero_add]
  rw [e]
  have s := h.set hk (x := (l[k].1, l[k].2.1, l[k].2.2.1 + 1, l[k].2.2.2)) rfl ⟨by show 0 ≤ l[k].2.2.1 + 1; omega, fun _ => by show 0 < l[k].2.2.1 + 1; omega⟩ (h.ot l[k] (List.getElem_mem hk))
  rw [show b - l[k].2.2.1 + (l[k].2.2.1 + 1) = b + 1 by omega] at s
  exact ⟨rfl, s, rdy_set hk _ rfl rfl, List.length_set⟩
theorem LInv.lea {l : List R4} {m b : Int} (h : LInv l m b) (hb : b < 1000000000) {k : Nat} (hk : k < l.length) :
    ((leaP l[k].1 l).1 == 0) = decide (0 < l[k].2.2.1) ∧ LInv (leaP l[k].1 l).2 m (if 0 < l[k].2.2.1 then b - 1 else b) ∧ (leaP l[k].1 l).2.length ≤ l.length := by
  have hf := findI_at h.srt hk
  have hb1 := busy_le (fun p hp => (h.bz p hp).1) hk
  rw [h.sm] at hb1
  have hb2 := h.bz _ (List.getElem_mem hk)
  unfold leaP
  rw [hf]
  simp only [g4_k hk]
  by_cases hz : l[k].2.2.1 = 0
  · rw [show (l[k].2.2.1 == 0) = true by simpa using hz]
    simp only [cond_true]
    rw [decide_eq_false (show ¬ 0 < l[k].2.2.1 by omega), if_neg (by omega)]
    exact ⟨rfl, h, Nat.le_refl _⟩
  · rw [show (l[k].2.2.1 == 0) = false by simpa using hz]
    simp only [cond_false]
    have hwv : wv (l[k].2.2.1 - 1) = l[k].2.2.1 - 1 := wrap64_in (by omega) (by omega)
    have eu : updS l k 1 = l.set k (l[k].1, l[k].2.1, l[k].2.2.1 - 1, l[k].2.2.2) := by
      unfold updS; simp only [g4_k hk, hwv, Int.toNat_natCast, Nat.zero_add]
    have hk' : k < (l.set k (l[k].1, l[k].2.1, l[k].2.2.1 - 1, l[k].2.2.2)).length := by rw [List.length_set]; exact hk
    have eg : g4 (updS l k 1) (k : Int) = (l[k].1, l[k].2.1, l[k].2.2.1 - 1, l[k].2.2.2) := by
      rw [eu, g4_k hk', List.getElem_set_self]
    rw [eg, decide_eq_true (show 0 < l[k].2.2.1 by omega), if_pos (by omega)]
    cases hc : (l[k].2.1 == 3 && l[k].2.2.1 - 1 == 0)
    · have s := h.set hk (x := (l[k].1, l[k].2.1, l[k].2.2.1 - 1, l[k].2.2.2)) rfl ⟨by show 0 ≤ l[k].2.2.1 - 1; omega, fun e => by
        show 0 < l[k].2.2.1 - 1
        have e' : l[k].2.1 = 3 := e
        rw [show (l[k].2.1 == 3) = true by simpa using e', Bool.true_and] at hc
        have : l[k].2.2.1 - 1 ≠ 0 := by simpa using hc
        omega⟩ (h.ot l[k] (List.getElem_mem hk))
      rw [show b - l[k].2.2.1 + (l[k].2.2.1 - 1) = b - 1 by omega, ← eu] at s
      exact ⟨rfl, s, by simp only [cond_false]; rw [eu, List.length_set]; exact Nat.le_refl _⟩
    · have s := h.erase hk
      have h1 : l[k].2.2.1 - 1 = 0 := by
        rw [Bool.and_eq_true] at hc; simpa using hc.2
      rw [show b - l[k].2.2.1 = b - 1 by omega] at s
      have ee : (updS l k 1).eraseIdx k = l.eraseIdx k := by rw [eu, List.eraseIdx_set_eq]
      simp only [cond_true]
      rw [ee]
      exact ⟨rfl, s, by rw [List.length_eraseIdx]; split <;> omega⟩
end Go.Proofs.Ytfnadebkobfemaa.Lif
