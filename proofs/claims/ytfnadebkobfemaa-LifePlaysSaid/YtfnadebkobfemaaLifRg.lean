/- Layer 21: the document's own Scale: its loops' rounds; what stays true of pods. -/
import Derived.Test.YtfnadebkobfemaaLifRf
import Derived.Test.YtfnadebkobfemaaLifN
namespace Go.Proofs.Ytfnadebkobfemaa.Lif
open Go.Eng Go.RowKit
set_option linter.unusedVariables false
set_option linter.unusedSimpArgs false
/-! ### what stays true -/
def gsP (p : R4) : Prop := (p.2.1 = 1 ∨ p.2.1 = 2 ∨ p.2.1 = 3) ∧ (p.2.1 = 1 → p.2.2.1 = 0)
def gs (l : List R4) : Prop := ∀ p ∈ l, gsP p
theorem gs.sub {l l' : List R4} (h : gs l) (s : ∀ p ∈ l', p ∈ l) : gs l' := fun p hp => h p (s p hp)
theorem gs.set {l : List R4} (h : gs l) {k : Nat} {x : R4} (hx : gsP x) : gs (l.set k x) := fun p hp => by
  rcases List.mem_or_eq_of_mem_set hp with q | rfl
  · exact h p q
  · exact hx
theorem gs.erase {l : List R4} (h : gs l) (k : Nat) : gs (l.eraseIdx k) := h.sub fun p hp => (List.eraseIdx_sublist _ _).subset hp
theorem gs.new {l : List R4} (h : gs l) (now : Int) (n : Nat) (m : Int) : gs (l ++ newP now n m) := fun p hp => by
  rcases List.mem_append.1 hp with q | q
  · exact h p q
  · obtain ⟨_, _, e1, e2, _⟩ := newP_memI n q
    exact ⟨.inl e1, fun _ => e2⟩
theorem gs.dis {l : List R4} (h : gs l) (now : Int) : gs (disL now l) := by
  unfold disL
  split
  · exact h
  · rename_i j q _
    cases decide (0 < q.2.2.1)
    · exact h.erase j
    · exact h.set ⟨.inr (.inr rfl), fun e => by cases e⟩
theorem gs.disN (now : Int) : ∀ (n : Nat) {l : List R4}, gs l → gs (disN now n l)
  | 0, l, h => h
  | n + 1, l, h => gs.disN now n (h.dis now)
theorem gs.scale {l : List R4} (h : gs l) (m want now : Int) : gs (scaleL m l want now) := gs.disN now _ (h.new now _ m)
theorem gs.ripe {l : List R4} (h : gs l) (now a : Int) : gs (ripeL now a l) := by
  unfold ripeL
  cases (decide (a < 0) || decide (100 < a))
  · intro p hp
    obtain ⟨q, hq, rfl⟩ := List.mem_map.1 hp
    have := h q hq
    unfold Lif.ripe
    cases q.2.1 == 1 && decide (q.2.2.2 + a ≤ now)
    · exact this
    · exact ⟨.inr (.inl rfl), fun e => by cases e⟩
  · exact h
theorem gd_of {l : List R4} {m b : Int} (h : LInv l m b) (g : gs l) : gdL b l := fun p hp => by
  obtain ⟨k, hk, rfl⟩ := List.getElem_of_mem hp
  have h1 := busy_le (fun p hp => (h.bz p hp).1) hk
  rw [h.sm] at h1
  have g1 := g _ (List.getElem_mem hk)
  exact ⟨g1.1, (h.bz _ (List.getElem_mem hk)).1, h1, g1.2⟩
/-! ### pods that come -/
def qaL (n : Nat) (l : List R4) : List R4 := (l.drop 0).take n
def qaG (n : Nat) (l : List R4) : Bool := decide (0 + n ≤ l.length) && (decide (0 ≤ ([] : List R4).length) && decide (0 + (qaL n l).length ≤ 1000000))
def qaH (n : Nat) (l : List R4) (x : R4) : Bool := true && (decide (0 + (qaL n l).length ≤ (List.take 0 ([] : List R4) ++ qaL n l).length) && decide (0 + (qaL n l).length + [x].length ≤ 1000000))
theorem wayQa (p : PQa) (a : AQa) : T.path [true, true, true, true] (rdQa p a) = some ([(okN a.n a.l, true), (decide ((cnt a.l : Int) < p.want), true), (qaG a.n a.l, true), (qaH a.n a.l (a.m, 1, 0, p.now), true)], (.normal, FQa p ⟨IntKind.wrap .i64 (a.m + 1), 0 + (qaL a.n a.l).length + [((a.m, 1, 0, p.now) : R4)].length, List.take (0 + (qaL a.n a.l).length) (List.take 0 ([] : List R4) ++ qaL a.n a.l) ++ [((a.m, 1, 0, p.now) : R4)]⟩)) := by kernel_rfl
theorem wayQax (p : PQa) (a : AQa) : T.path [true, false] (rdQa p a) = some ([(okN a.n a.l, true), (decide ((cnt a.l : Int) < p.want), false)], (.exit 0, FQa p a)) := by kernel_rfl
def okQa (p : PQa) (a : AQa) : Prop := p.want ≤ 100 ∧ 0 ≤ p.m0 ∧ p.m0 ≤ 1000000000 ∧ p.l0.length ≤ 10000 ∧ a.n = a.l.length ∧ ∃ j : Nat, a.l = p.l0 ++ newP p.now j p.m0 ∧ a.m = p.m0 + j ∧ (j : Int) ≤ max (p.want - cnt p.l0) 0
def goQa (p : PQa) (a : AQa) : Bool := decide ((cnt a.l : Int) < p.want)
def muQa (p : PQa) (a : AQa) : Nat := (p.want - cnt a.l).toNat
theorem qa_len {p : PQa} {a : AQa} (h : okQa p a) : a.l.length ≤ 20000 := by
  obtain ⟨h1, h2, h3, h4, h5, j, h6, h7, h8⟩ := h
  rw [h6, List.length_append, newP_len]; omega
theorem stepQa (p : PQa) (a : AQa) (h : okQa p a) (hg : goQa p a = true) : ∃ b, stepC okQa rdQa FQa muQa p a b := by
  have hL := qa_len h
  obtain ⟨h1, h2, h3, h4, h5, j, h6, h7, h8⟩ := id h
  have hi : (cnt a.l : Int) < p.want := of_decide_eq_true hg
  have hcn : cnt a.l = cnt p.l0 + j := by rw [h6, cnt_app, cnt_new]
  have hm : IntKind.wrap .i64 (a.m + 1) = a.m + 1 := wrap64_in (by omega) (by omega)
  have eL : qaL a.n a.l = a.l := by unfold qaL; rw [h5]; simp
  have eN : List.take (0 + (qaL a.n a.l).length) (List.take 0 ([] : List R4) ++ qaL a.n a.l) = a.l := by rw [eL]; simp
  refine ⟨_, T.path_eval (wayQa p a) ⟨decide_eq_true ⟨h5, by omega⟩, hg, ?_, ?_, trivial⟩, ⟨h1, h2, h3, h4, ?_, j + 1, ?_, ?_, ?_⟩, ?_⟩
  · unfold qaG; rw [eL]; simp only [Bool.and_eq_true, decide_eq_true_eq]; exact ⟨by omega, Nat.le_refl _, by omega⟩
  · unfold qaH; rw [eL]; rw [List.take_zero, List.nil_append, decide_eq_true (show 0 + a.l.length ≤ a.l.length by omega), decide_eq_true (show 0 + a.l.length + [((a.m, 1, 0, p.now) : R4)].length ≤ 1000000 by rw [List.length_singleton]; omega)]; rfl
  · show 0 + (qaL a.n a.l).length + 1 = (List.take (0 + (qaL a.n a.l).length) (List.take 0 ([] : List R4) ++ qaL a.n a.l) ++ [_]).length
    rw [eN, eL]; simp
  · show List.take (0 + (qaL a.n a.l).length) (List.take 0 ([] : List R4) ++ qaL a.n a.l) ++ [(a.m, 1, 0, p.now)] = p.l0 ++ newP p.now (j + 1) p.m0
    rw [eN, newP_succ, ← List.append_assoc, ← h6, h7]
  · show IntKind.wrap .i64 (a.m + 1) = p.m0 + (j + 1 : Nat); rw [hm]; omega
  · omega
  · show (p.want - cnt (List.take (0 + (qaL a.n a.l).length) (List.take 0 ([] : List R4) ++ qaL a.n a.l) ++ [(a.m, 1, 0, p.now)])).toNat < (p.want - cnt a.l).toNat
    rw [eN, cnt_app, show cnt [((a.m, 1, 0, p.now) : R4)] = 1 from rfl]; omega
theorem exQa (p : PQa) (a : AQa) (h : okQa p a) (hg : goQa p a = false) : (rdQa p a).eval = some (.exit 0, FQa p a) := T.path_eval (wayQax p a) ⟨decide_eq_true ⟨h.2.2.2.2.1, by have := qa_len h; omega⟩, hg, trivial⟩
noncomputable def famQa : LSpec := famC [0,1,2] SQa 1000 1001 94 decQa okQa goQa rdQa FQa muQa (.exit 0)
theorem lpQa_ok : LoopOk JRa lpQa famQa := famC_ok (vs := vsQa) (bs := bsQa) JRa_ok mixed (noLoops_ok _) decQa_ok (by simp) (fun _ _ => rfl) (fun _ _ => rfl) stepQa exQa
/-! ### pods that go -/
def gV (l : List R4) : Int := oV (joinG (g1O l) (g2O l))
def tS (l : List R4) (k : Int) : List R4 := l.set (0 + Int.toNat k) ((g4 l k).1, 3, (g4 l k).2.2.1, (g4 l k).2.2.2)
def qbC (l : List R4) : Bool := bif (g4 l (gV l)).2.1 == 1 then true else (g4 l (gV l)).2.2.1 == 0
theorem wayQb1 (p : PQb) (a : AQb) : T.path [true, true, true, true, true, true, true, true, true] (rdQb p a) = some ([(okN a.n a.l, true), (decide (p.want < (cnt a.l : Int)), true), (okN a.n a.l, true), (idR a.l a.n (gV a.l), true), (ldR a.l (gV a.l), true), (qC ((g4 a.l (gV a.l)).2.1 == 1) (idR a.l a.n (gV a.l)), true), (qC ((g4 a.l (gV a.l)).2.1 == 1) (ldR a.l (gV a.l)), true), (qbC a.l, true), (okN a.n a.l && (decide (0 ≤ gV a.l) && decide (gV a.l < (a.n : Int))), true)], (.normal, FQb p ⟨a.n - 1, a.l.eraseIdx (gV a.l).toNat⟩)) := by kernel_rfl
theorem wayQb0 (p : PQb) (a : AQb) : T.path [true, true, true, true, true, true, true, false, true, true, true, true] (rdQb p a) = some ([(okN a.n a.l, true), (decide (p.want < (cnt a.l : Int)), true), (okN a.n a.l, true), (idR a.l a.n (gV a.l), true), (ldR a.l (gV a.l), true), (qC ((g4 a.l (gV a.l)).2.1 == 1) (idR a.l a.n (gV a.l)), true), (qC ((g4 a.l (gV a.l)).2.1 == 1) (ldR a.l (gV a.l)), true), (qbC a.l, false), (idR a.l a.n (gV a.l), true), (ldR a.l (gV a.l), true), (idR (tS a.l (gV a.l)) a.n (gV a.l), true), (ldR (tS a.l (gV a.l)) (gV a.l), true)],
    (.normal, FQb p ⟨a.n, (tS a.l (gV a.l)).set (0 + Int.toNat (gV a.l)) ((g4 (tS a.l (gV a.l)) (gV a.l)).1, (g4 (tS a.l (gV a.l)) (gV a.l)).2.1, (g4 (tS a.l (gV a.l)) (gV a.l)).2.2.1, p.now)⟩)) := by kernel_rfl
theorem wayQbx (p : PQb) (a : AQb) : T.path [true, false] (rdQb p a) = some ([(okN a.n a.l, true), (decide (p.want < (cnt a.l : Int)), false)], (.exit 2, FQb p a)) := by kernel_rfl
def okQb (p : PQb) (a : AQb) : Prop := 0 ≤ p.want ∧ 0 ≤ p.now ∧ p.now ≤ 1099511627776 ∧ a.n = a.l.length ∧ a.l.length ≤ 100000 ∧ gs a.l ∧ (∃ b, LInv a.l p.m b) ∧ ∃ j : Nat, a.l = disN p.now j p.l0 ∧ cnt a.l = cnt p.l0 - j ∧ (j : Int) ≤ max (cnt p.l0 - p.want) 0
def goQb (p : PQb) (a : AQb) : Bool := decide (p.want < (cnt a.l : Int))
def muQb (p : PQb) (a : AQb) : Nat := cnt a.l
theorem stepQb (p : PQb) (a : AQb) (h : okQb p a) (hg : goQb p a = true) : ∃ b, stepC okQb rdQb FQb muQb p a b := by
  obtain ⟨h1, h2, h3, h4, h5, h6, ⟨b, h7⟩, j, h8, h9, h10⟩ := id h
  have hi : p.want < (cnt a.l : Int) := of_decide_eq_true hg
  have oN : okN a.n a.l = true := decide_eq_true ⟨h4, h5⟩
  obtain ⟨k, q, ho⟩ := spO_of_cnt (l := a.l) (by omega)
  have hgo := goer_is (gd_of h7 h6)
  have hV : gV a.l = k := by unfold gV; rw [← hgo, ho]; rfl
  have hjq := (spO_some ho).1
  have hj := spO_lt ho
  have hgj : g4 a.l (k : Int) = q := by
    rw [g4_at (by omega)]; exact (List.getElem?_eq_some_iff.1 hjq).2
  have hkq : a.l[k] = q := (List.getElem?_eq_some_iff.1 hjq).2
  obtain ⟨x1, x2⟩ := idR_is (g := a.l) (k := a.n) (i := (k : Int)) h4 (by omega) (by omega)
  obtain ⟨d1, d2⟩ := h7.dis (now := p.now) h2 h3
  have d3 := h6.dis p.now
  have d4 := disL_len p.now a.l
  have gq := h6 _ (List.getElem_mem hj)
  have bq := (h7.bz _ (List.getElem_mem hj)).1
  rw [hkq] at gq bq
  have ok' : okQb p ⟨(disL p.now a.l).length, disL p.now a.l⟩ := ⟨h1, h2, h3, rfl, by show (disL p.now a.l).length ≤ 100000; omega, d3, ⟨b, d1⟩, j + 1, by show disL p.now a.l = _; rw [disN_succ, ← h8], by show cnt (disL p.now a.l) = _; rw [d2]; omega, by omega⟩
  have mu' : muQb p ⟨(disL p.now a.l).length, disL p.now a.l⟩ < muQb p a := by show cnt (disL p.now a.l) < cnt a.l; rw [d2]; omega
  cases hc : qbC a.l
  · have hb : decide (0 < q.2.2.1) = true := by
      unfold qbC at hc
      rw [hV, hgj] at hc
      cases q1 : q.2.1 == 1
      · rw [q1] at hc
        have : q.2.2.1 ≠ 0 := by simpa using hc
        exact decide_eq_true (by omega)
      · rw [q1] at hc; cases hc
    have hdl : (tS a.l k).length = a.l.length := List.length_set
    obtain ⟨y1, y2⟩ := idR_is (g := tS a.l k) (k := a.n) (i := (k : Int)) (by rw [hdl]; exact h4) (by omega) (by omega)
    have hd : g4 (tS a.l k) (k : Int) = (q.1, 3, q.2.2.1, q.2.2.2) := by
      rw [g4_at (by rw [hdl]; omega)]
      unfold tS
      simp [hgj]
    have e : (⟨a.n, (tS a.l (gV a.l)).set (0 + Int.toNat (gV a.l)) ((g4 (tS a.l (gV a.l)) (gV a.l)).1, (g4 (tS a.l (gV a.l)) (gV a.l)).2.1, (g4 (tS a.l (gV a.l)) (gV a.l)).2.2.1, p.now)⟩ : AQb) = ⟨(disL p.now a.l).length, disL p.now a.l⟩ := by
      rw [hV, hd]
      have e2 : (tS a.l k).set (0 + Int.toNat (k : Int)) (q.1, 3, q.2.2.1, p.now) = disL p.now a.l := by
        unfold tS disL
        simp [ho, hb]
      rw [e2]
      have : (disL p.now a.l).length = a.n := by rw [← e2, List.length_set, hdl, h4]
      rw [this]
    refine ⟨_, (T.path_eval (wayQb0 p a) ⟨oN, hg, oN, by rw [hV]; exact x1, by rw [hV]; exact x2, qC_is (.inr (by rw [hV]; exact x1)), qC_is (.inr (by rw [hV]; exact x2)), hc, by rw [hV]; exact x1, by rw [hV]; exact x2, by rw [hV]; exact y1, by rw [hV]; exact y2, trivial⟩).trans (by rw [e]), ok', mu'⟩
  · have hb : decide (0 < q.2.2.1) = false := by
      unfold qbC at hc
      rw [hV, hgj] at hc
      cases q1 : q.2.1 == 1
      · rw [q1] at hc
        have : q.2.2.1 = 0 := by simpa using hc
        exact decide_eq_false (by omega)
      · have := gq.2 (by simpa using q1)
        exact decide_eq_false (by omega)
    have e : (⟨a.n - 1, a.l.eraseIdx (gV a.l).toNat⟩ : AQb) = ⟨(disL p.now a.l).length, disL p.now a.l⟩ := by
      rw [hV, Int.toNat_natCast]
      have e2 : disL p.now a.l = a.l.eraseIdx k := by unfold disL; simp only [ho, hb, cond_false]
      rw [e2, List.length_eraseIdx, if_pos hj, h4]
    refine ⟨_, (T.path_eval (wayQb1 p a) ⟨oN, hg, oN, by rw [hV]; exact x1, by rw [hV]; exact x2, qC_is (.inr (by rw [hV]; exact x1)), qC_is (.inr (by rw [hV]; exact x2)), hc, by rw [hV, oN, decide_eq_true (show (0 : Int) ≤ (k : Int) by omega), decide_eq_true (show (k : Int) < (a.n : Int) by omega)]; rfl, trivial⟩).trans (by rw [e]), ok', mu'⟩
theorem exQb (p : PQb) (a : AQb) (h : okQb p a) (hg : goQb p a = false) : (rdQb p a).eval = some (.exit 2, FQb p a) := T.path_eval (wayQbx p a) ⟨decide_eq_true ⟨h.2.2.2.1, h.2.2.2.2.1⟩, hg, trivial⟩
noncomputable def famQb : LSpec := famC [0,1,2] SQb 2000 2001 94 decQb okQb goQb rdQb FQb muQb (.exit 2)
theorem lpQb_ok : LoopOk JRa lpQb famQb := famC_ok (vs := vsQb) (bs := bsQb) JRa_ok mixed (noLoops_ok _) decQb_ok (by simp) (fun _ _ => rfl) (fun _ _ => rfl) stepQb exQb
noncomputable def srE : Eng.Obj := execO JRa (byReg [(rgQa, famQa), (rgQb, famQb)]) 33
theorem srE_ok : ObjOk Try.prog 33 srE := execO_loops JRa_ok mixed Try.func33 (by kernel_rfl) (by kernel_rfl) (two_lp (c := lpQa) (c' := lpQb) (by kernel_rfl) rgQa_is rgQb_is (by kernel_rfl) lpQa_ok lpQb_ok)
noncomputable def eQa (m want now : Int) (n : Nat) (l : List R4) : AQa := endW (nxtC okQa goQa rdQa FQa muQa ⟨want, now, l, m⟩) ⟨m, n, l⟩
noncomputable def pQb (m want now : Int) (n : Nat) (l : List R4) : PQb := ⟨want, now, (eQa m want now n l).m, (eQa m want now n l).l⟩
noncomputable def eQb (m want now : Int) (n : Nat) (l : List R4) : AQb := endW (nxtC okQb goQb rdQb FQb muQb (pQb m want now n l)) ⟨(eQa m want now n l).n, (eQa m want now n l).l⟩
def hS (K : Nat) (m : Int) (n : Nat) (l : List R4) : Heap := [(0, rfB K m n), (K, podB l)]
theorem waySr1 (m want now : Int) (n : Nat) (l : List R4) : T.path [true] (srE [.ptr 0 0, iv want, iv now] (hR m n l)) = some ([(outS want now, true)], (iv 1, hR m n l)) := by kernel_rfl
theorem waySr0 (m want now : Int) (n : Nat) (l : List R4) : T.path [false, true, true] (srE [.ptr 0 0, iv want, iv now] (hR m n l)) = some ([(outS want now, false), (invC okQa ⟨want, now, l, m⟩ ⟨m, n, l⟩, true), (invC okQb (pQb m want now n l) ⟨(eQa m want now n l).n, (eQa m want now n l).l⟩, true)], (iv 0, hS 2000 (eQa m want now n l).m (eQb m want now n l).n (eQb m want now n l).l)) := by kernel_rfl
end Go.Proofs.Ytfnadebkobfemaa.Lif
