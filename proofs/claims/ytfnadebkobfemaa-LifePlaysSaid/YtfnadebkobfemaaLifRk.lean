/- Layer 21: LifePlays. -/
import Derived.Test.YtfnadebkobfemaaLifRi
import Derived.Test.YtfnadebkobfemaaLifRj
namespace Go.Proofs.Ytfnadebkobfemaa.Lif
open Go.Eng Go.RowKit
set_option linter.unusedVariables false
set_option linter.unusedSimpArgs false
theorem tkC_is {c : Bool} {n : Nat} {L : List R4} (hc : c = false) (hn : n = L.length) (hl : L.length ≤ 100000) : allSay (tkC c n L n L) := by
  subst hc
  have oN : okN n L = true := decide_eq_true ⟨hn, hl⟩
  have hr := rdy_le L
  have eP : eqPods ((L.drop 0).take L.length) ((L.drop 0).take n) = true := by
    rw [hn]; refine decide_eq_true ⟨rfl, ?_⟩
    rw [List.length_take]; omega
  have eI : eqInts (((rdy L).drop 0).take (rdy L).length) (((rdy L).drop 0).take (rdy L).length) = true := by
    refine decide_eq_true ⟨rfl, ?_⟩
    rw [List.length_take]; omega
  have d1 : (decide (0 + L.length ≤ L.length) && decide (0 + n ≤ L.length)) = true := by
    rw [decide_eq_true (show 0 + L.length ≤ L.length by omega), decide_eq_true (show 0 + n ≤ L.length by omega)]; rfl
  have d2 : (decide (0 + (rdy L).length ≤ (rdy L).length) && decide (0 + (rdy L).length ≤ (rdy L).length)) = true := by
    rw [decide_eq_true (show 0 + (rdy L).length ≤ (rdy L).length by omega)]; rfl
  exact ⟨rfl, oN, rfl, d1, eP, rfl, oN, rfl, oN, rfl, d2, eI, rfl, oN, rfl, oN, by simp, trivial⟩
theorem leO_zero {id : Int} {l : List R4} (h : leO id l = true) : (leaP id l).1 = 0 := by
  unfold leO at h
  unfold leaP
  cases hf : findI id l with
  | none => rw [hf] at h; cases h
  | some k =>
    rw [hf] at h
    simp only at h ⊢
    cases hz : (g4 l (k : Int)).2.2.1 == 0
    · simp only [cond_false]
      cases (g4 (updS l k 1) k).2.1 == 3 && (g4 (updS l k 1) k).2.2.1 == 0 <;> rfl
    · rw [hz] at h; cases h
def okPa (p : PPa) (a : APa) : Prop := p.kg = p.g.length ∧ p.kg ≤ 120 ∧ 0 ≤ a.i ∧ a.i ≤ p.kg ∧ a.m = a.w ∧ a.n = a.k ∧ a.l = a.r ∧ a.n = a.l.length ∧ 0 ≤ a.m ∧ a.m ≤ 100 * a.i ∧ gs a.l ∧ cnt a.l ≤ 100 ∧ ∃ b, b ≤ a.i ∧ LInv a.l a.m b
def goPa (p : PPa) (a : APa) : Bool := decide (a.i < (p.kg : Int))
def muPa (p : PPa) (a : APa) : Nat := (p.kg - a.i).toNat
theorem stepPa (p : PPa) (a : APa) (h : okPa p a) (hg : goPa p a = true) : ∃ b, stepC okPa rdPa FPa muPa p a b := by
  obtain ⟨m, n, l, w, k, r, i⟩ := a
  obtain ⟨h1, h2, h3, h4, e1, e2, e3, h5, h6, h7, h8, h9, b, h10, h11⟩ := id h
  simp only at e1 e2 e3 h3 h4 h5 h6 h7 h8 h9 h10 h11
  subst e1 e2 e3
  have hi : i < (p.kg : Int) := of_decide_eq_true hg
  have hw := w1 h3 hi (by omega)
  obtain ⟨x1, x2⟩ := idR_is (g := p.g) (k := p.kg) (i := i) h1 h3 hi
  have hd : allSay (hdC p ⟨m, n, l, m, n, l, i⟩) := ⟨hg, x1, x2, trivial⟩
  have hlen := len_le h11.bz
  rw [h11.sm] at hlen
  have oN : okN n l = true := decide_eq_true ⟨h5, by omega⟩
  have oT : okTb l = true := okTb_of h11.ot
  have mu : (p.kg - IntKind.wrap .i64 (i + 1)).toNat < (p.kg - i).toNat := by rw [hw]; omega
  have fin : ∀ (m' : Int) (n' : Nat) (L : List R4), 0 ≤ m' → m' ≤ m + 100 → n' = L.length → gs L → cnt L ≤ 100 → (∃ b', b' ≤ b + 1 ∧ LInv L m' b') → okPa p ⟨m', n', L, m', n', L, IntKind.wrap .i64 (i + 1)⟩ ∧ ∀ c, c = false → allSay (tkC c n' L n' L) := by
    intro m' n' L f1 f2 f3 f4 f5 ⟨b', f6, f7⟩
    have hl := len_le f7.bz
    rw [f7.sm] at hl
    refine ⟨⟨h1, h2, ?_, ?_, rfl, rfl, rfl, f3, f1, ?_, f4, f5, b', ?_, f7⟩, fun c hc => tkC_is hc f3 (by omega)⟩
    · show 0 ≤ IntKind.wrap .i64 (i + 1); rw [hw]; omega
    · show IntKind.wrap .i64 (i + 1) ≤ _; rw [hw]; omega
    · show m' ≤ 100 * IntKind.wrap .i64 (i + 1); rw [hw]; omega
    · show b' ≤ IntKind.wrap .i64 (i + 1); rw [hw]; omega
  have scl : ∀ e, allSay (pS (kx p i) e) → ∃ b, stepC okPa rdPa FPa muPa p ⟨m, n, l, m, n, l, i⟩ b := by
    intro e hp
    have oS : okSc m n l = true := by
      unfold okSc; rw [oN, decide_eq_true (show l.length ≤ 10000 ∧ 0 ≤ m ∧ m ≤ 1000000000 by omega)]; rfl
    have oQ : invC okQ m (n, l) = true := invC_is ⟨h5, by show l.length ≤ 10000; omega, h6, by omega, h8, b, h11⟩
    cases ho : outS (xN p i) (xT p i)
    · obtain ⟨z1, z2, z3, z4⟩ := outS_no ho
      obtain ⟨s1, s2, s3⟩ := h11.scale h6 (want := xN p i) (now := xT p i) z1 z3 z4
      have hM : 0 ≤ scaleM m l (xN p i) ∧ scaleM m l (xN p i) ≤ m + 100 := by unfold scaleM; omega
      obtain ⟨f1, f2⟩ := fin _ _ _ hM.1 hM.2 rfl (h8.scale m (xN p i) (xT p i)) (by omega) ⟨b, by omega, s1⟩
      exact ⟨_, T.path_eval (wayP0 p ⟨m, n, l, m, n, l, i⟩ e) (allSay_append hd (allSay_append hp (allSay_append ⟨oS, ho, oQ, ho, trivial⟩ (f2 _ rfl)))), f1, mu⟩
    · obtain ⟨f1, f2⟩ := fin m n l h6 (by omega) h5 h8 h9 ⟨b, by omega, h11⟩
      exact ⟨_, T.path_eval (wayP1 p ⟨m, n, l, m, n, l, i⟩ e) (allSay_append hd (allSay_append hp (allSay_append ⟨oS, ho, oQ, ho, trivial⟩ (f2 _ rfl)))), f1, mu⟩
  have rip : allSay (pR (kx p i)) → ∃ b, stepC okPa rdPa FPa muPa p ⟨m, n, l, m, n, l, i⟩ b := by
    intro hp
    obtain ⟨f1, f2⟩ := fin m n (ripeL (xT p i) (xA p i) l) h6 (by omega) (by rw [ripeL_len]; exact h5) (h8.ripe _ _) (by rw [cnt_ripe]; exact h9) ⟨b, by omega, h11.ripe _ _⟩
    have o : (okN n l && okTb l) = true := by rw [oN, oT]; rfl
    have tl : allSay (tlC n (ripeL (xT p i) (xA p i) l) n (ripeL (xT p i) (xA p i) l)) := by
      obtain ⟨_, t2, _, t4, t5, _, t7, _, t9, _, t11, t12, _, t14, _, t16, t17, _⟩ := f2 false rfl
      exact ⟨t2, t4, t5, t7, t9, t11, t12, t14, t16, t17, trivial⟩
    exact ⟨_, T.path_eval (wayP2 p ⟨m, n, l, m, n, l, i⟩) (allSay_append hd (allSay_append hp (allSay_append ⟨o, o, trivial⟩ tl))), f1, mu⟩
  have ent : ∀ e, allSay (pE (kx p i) e) → ∃ b, stepC okPa rdPa FPa muPa p ⟨m, n, l, m, n, l, i⟩ b := by
    intro e hp
    obtain ⟨g1, g2, g3, g4⟩ := ent_all (xN p i) h11 h8 (by omega)
    obtain ⟨f1, f2⟩ := fin m n (entP (xN p i) l).2 h6 (by omega) (by rw [g1]; exact h5) g2 (by omega) g4
    exact ⟨_, T.path_eval (wayP3 p ⟨m, n, l, m, n, l, i⟩ e) (allSay_append hd (allSay_append hp (allSay_append ⟨oN, oN, trivial⟩ (f2 _ (by simp))))), f1, mu⟩
  have lea : ∀ e, allSay (pL (kx p i) e) → ∃ b, stepC okPa rdPa FPa muPa p ⟨m, n, l, m, n, l, i⟩ b := by
    intro e hp
    obtain ⟨g2, g3, b', g4, g5⟩ := lea_all (xN p i) h11 h8 (by omega)
    obtain ⟨f1, f2⟩ := fin m _ (leaP (xN p i) l).2 h6 (by omega) rfl g2 (by omega) ⟨b', by omega, g5⟩
    cases ho : leO (xN p i) l
    · exact ⟨_, T.path_eval (wayP5 p ⟨m, n, l, m, n, l, i⟩ e false) (allSay_append hd (allSay_append hp (allSay_append ⟨oN, oN, ho, trivial⟩ (f2 _ (by simp [le0]))))), f1, mu⟩
    · exact ⟨_, T.path_eval (wayP5 p ⟨m, n, l, m, n, l, i⟩ e true) (allSay_append hd (allSay_append hp (allSay_append ⟨oN, oN, ho, trivial⟩ (f2 _ (by show ((leaP (xN p i) l).1 != 0) = false; rw [leO_zero ho]; rfl))))), f1, mu⟩
  have cra : allSay (pC (kx p i)) → ∃ b, stepC okPa rdPa FPa muPa p ⟨m, n, l, m, n, l, i⟩ b := by
    intro hp
    obtain ⟨g2, g3, b', g4, g5⟩ := cra_all (xN p i) h11 h8
    obtain ⟨f1, f2⟩ := fin m _ (craP (xN p i) l).2 h6 (by omega) rfl g2 (by omega) ⟨b', by omega, g5⟩
    exact ⟨_, T.path_eval (wayP7 p ⟨m, n, l, m, n, l, i⟩ (cB n (xN p i))) (allSay_append hd (allSay_append hp (allSay_append ⟨oN, oN, rfl, by simp [peE], trivial⟩ (f2 _ (by simp))))), f1, mu⟩
  cases q0 : kx p i == 0
  · cases q1 : kx p i == 1
    · cases q2 : kx p i == 2
      · cases q3 : kx p i == 3
        · cases q4 : kx p i == 4
          · cases q5 : kx p i == 5
            · cases q6 : kx p i == 6
              · exact cra ⟨q0, q1, q2, q3, q4, q5, q6, trivial⟩
              · exact lea false ⟨q0, q1, q2, q3, q4, q5, q6, trivial⟩
            · exact lea true ⟨q0, q1, q2, q3, q4, q5, q5, trivial⟩
          · exact ent false ⟨q0, q1, q2, q3, q4, trivial⟩
        · exact ent true ⟨q0, q1, q2, q3, q3, trivial⟩
      · exact rip ⟨q0, q1, q2, trivial⟩
    · exact scl false ⟨q0, q1, trivial⟩
  · exact scl true ⟨q0, q0, trivial⟩
theorem exPa (p : PPa) (a : APa) (h : okPa p a) (hg : goPa p a = false) : (rdPa p a).eval = some (.exit 0, FPa p a) := T.path_eval (wayPx p a) ⟨hg, trivial⟩
noncomputable def famPa : LSpec := famC [0,3,4,5] SPa 2000 2002 134 decPa okPa goPa rdPa FPa muPa (.exit 0)
theorem lpPa_ok : LoopOk JP lpPa famPa := famC_ok (vs := vsPa) (bs := bsPa) JP_ok mixed (noLoops_ok _) decPa_ok (by simp) (fun _ _ => rfl) (fun _ _ => rfl) stepPa exPa
noncomputable def famPv : LSpec := fun st => (adoptC 9 0 39 KP st).bind famPa
theorem lpPv_ok : LoopOk JP lpPa famPv := lpPa_ok.adoptC 9 0 39 KP
theorem wayPaL (g : List R4) : T.path [true] (execS JP (byReg [(rgPa, famPv)]) 5 [.orow 51 KP g]) = some ([(decide (120 < (g.length : Int)), true)], .tt) := by kernel_rfl
theorem wayPaS (g : List R4) : T.path [false, true] (execS JP (byReg [(rgPa, famPv)]) 5 [.orow 51 KP g]) = some ([(decide (120 < (g.length : Int)), false), (invC okPa ⟨g, g.length⟩ ⟨0, 0, [], 0, 0, [], 0⟩, true)], .tt) := by kernel_rfl
theorem lifePlays_run (g : List R4) : (execS JP (byReg [(rgPa, famPv)]) 5 [.orow 51 KP g]).eval = some .tt := by
  by_cases hl : 120 < (g.length : Int)
  · exact T.path_eval (wayPaL g) ⟨decide_eq_true hl, trivial⟩
  · have h0 : okPa ⟨g, g.length⟩ ⟨0, 0, [], 0, 0, [], 0⟩ := ⟨rfl, by show g.length ≤ 120; omega, Int.le_refl _, by show (0 : Int) ≤ (g.length : Int); omega, rfl, rfl, rfl, rfl, Int.le_refl _, Int.le_refl _, (by intro p hp; cases hp), by show (0 : Nat) ≤ 100; omega, 0, Int.le_refl _, ⟨List.Pairwise.nil, (by intro p hp; cases hp), (by intro p hp; cases hp), rfl, (by intro p hp; cases hp)⟩⟩
    exact T.path_eval (wayPaS g) ⟨decide_eq_false hl, invC_is h0, trivial⟩
theorem lifePlays_walk (g : List R4) (_ : g.length ≤ maxLen) (_ : ∀ x ∈ g, (Lit.int .i64 x.1).wf = true ∧ (Lit.int .i64 x.2.1).wf = true ∧ (Lit.int .i64 x.2.2.1).wf = true ∧ (Lit.int .i64 x.2.2.2).wf = true) (x : Value) (w : World) (hx : holdsP 0 w (.orow 51 KP g) x) :
    Calls Try.prog 5 #[x] w fun e w' => e = .returned (.bool true) ∧ Below w.heap.size w w' :=
  Law.law_rows (args := [.orow 51 KP g]) (xs := [x]) (execS_loops (Λ := byReg [(rgPa, famPv)]) JP_ok mixed Try.func5 (by kernel_rfl) (by kernel_rfl) (one_lp (c := lpPa) (by kernel_rfl) rgPa_is lpPv_ok)) rfl (.inl (lifePlays_run g)) w ⟨hx, trivial⟩
end Go.Proofs.Ytfnadebkobfemaa.Lif
