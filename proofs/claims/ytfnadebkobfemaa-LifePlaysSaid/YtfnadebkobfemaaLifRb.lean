/- Layer 21: the document's own pods: rounds of Count, goer, Ready, at, Ripe. -/
import Derived.Test.YtfnadebkobfemaaLifRa
namespace Go.Proofs.Ytfnadebkobfemaa.Lif
open Go.Eng Go.RowKit
set_option linter.unusedVariables false
set_option linter.unusedSimpArgs false
theorem w1 {i : Int} {n : Nat} (h0 : 0 ≤ i) (h : i < n) (hn : n ≤ 100000) : IntKind.wrap .i64 (i + 1) = i + 1 := wrap64_in (by omega) (by omega)
/-! ### Count -/
theorem wayRc (p : PRc) (a : ARc) (e : Bool) : T.path [true, true, true, e] (rdRc p a) = some ([(decide (a.i < (p.n : Int)), true), (idR p.l p.n a.i, true), (ldR p.l a.i, true), ((g4 p.l a.i).2.1 != 3, e)], (.normal, FRc p ⟨cn1 a.c e, IntKind.wrap .i64 (a.i + 1)⟩)) := by cases e <;> kernel_rfl
theorem wayRcx (p : PRc) (a : ARc) : T.path [false] (rdRc p a) = some ([(decide (a.i < (p.n : Int)), false)], (.exit 0, FRc p a)) := by kernel_rfl
def okRc (p : PRc) (a : ARc) : Prop := p.n = p.l.length ∧ p.l.length ≤ 100000 ∧ 0 ≤ a.i ∧ a.i ≤ p.n ∧ a.c = cnt (p.l.take a.i.toNat)
def goRc (p : PRc) (a : ARc) : Bool := decide (a.i < (p.n : Int))
def muRc (p : PRc) (a : ARc) : Nat := (p.n - a.i).toNat
theorem stepRc (p : PRc) (a : ARc) (h : okRc p a) (hg : goRc p a = true) : ∃ b, stepC okRc rdRc FRc muRc p a b := by
  obtain ⟨h1, h3, h4, h5, h6⟩ := id h
  have hi : a.i < p.n := of_decide_eq_true hg
  have hw := w1 h4 hi (by omega)
  have hj : a.i.toNat < p.l.length := by omega
  obtain ⟨x1, x2⟩ := idR_is (g := p.l) (k := p.n) (i := a.i) h1 h4 (by omega)
  have hc := cnt_le (p.l.take a.i.toNat)
  have hl : (p.l.take a.i.toNat).length ≤ p.l.length := by rw [List.length_take]; omega
  have hcn := cnt_next h4 hj
  refine ⟨_, T.path_eval (wayRc p a (stay (g4 p.l a.i))) ⟨hg, x1, x2, rfl, trivial⟩, ⟨h1, h3, ?_, ?_, ?_⟩, ?_⟩
  · show 0 ≤ IntKind.wrap .i64 (a.i + 1); rw [hw]; omega
  · show IntKind.wrap .i64 (a.i + 1) ≤ p.n; rw [hw]; omega
  · show cn1 a.c (stay (g4 p.l a.i)) = cnt (p.l.take (IntKind.wrap .i64 (a.i + 1)).toNat)
    rw [hw, hcn, g4_at hj]
    cases hs : stay p.l[a.i.toNat]
    · show a.c = _; rw [h6]; simp
    · show IntKind.wrap .i64 (a.c + 1) = _
      rw [wrap64_in (by omega) (by omega), h6]; simp
  · show (p.n - IntKind.wrap .i64 (a.i + 1)).toNat < (p.n - a.i).toNat
    rw [hw]; omega
theorem exRc (p : PRc) (a : ARc) (h : okRc p a) (hg : goRc p a = false) : (rdRc p a).eval = some (.exit 0, FRc p a) := T.path_eval (wayRcx p a) ⟨hg, trivial⟩
noncomputable def famRc : LSpec := famC [0,3,4] SRc 1000 1000 26 decRc okRc goRc rdRc FRc muRc (.exit 0)
theorem lpRc_ok : LoopOk J0 lpRc famRc := famC_ok (vs := vsRc) (bs := bsRc) J0_ok mixed (noLoops_ok _) decRc_ok (by simp) (fun _ _ => rfl) (fun _ _ => rfl) stepRc exRc
/-! ### who goes -/
def g1S (o : Option (Nat × R4)) (x : R4 × Nat) : Option (Nat × R4) := bif x.1.2.1 == 1 then some (x.2, x.1) else o
def g2S (o : Option (Nat × R4)) (x : R4 × Nat) : Option (Nat × R4) := bif x.1.2.1 == 2 then (match o with | none => some (x.2, x.1) | some (j, q) => bif decide (x.1.2.2.1 ≤ q.2.2.1) then some (x.2, x.1) else some (j, q)) else o
def g1O (l : List R4) : Option (Nat × R4) := l.zipIdx.foldl g1S none
def g2O (l : List R4) : Option (Nat × R4) := l.zipIdx.foldl g2S none
def oV : Option (Nat × R4) → Int
  | none => -1
  | some (j, _) => j
def gdP (b : Int) (p : R4) : Prop := (p.2.1 = 1 ∨ p.2.1 = 2 ∨ p.2.1 = 3) ∧ 0 ≤ p.2.2.1 ∧ p.2.2.1 ≤ b ∧ (p.2.1 = 1 → p.2.2.1 = 0)
def gdL (b : Int) (l : List R4) : Prop := ∀ p ∈ l, gdP b p
def joinG (a b : Option (Nat × R4)) : Option (Nat × R4) := match a with
  | some r => some r
  | none => b
theorem goer_fold {b : Int} : ∀ (l : List (R4 × Nat)) (o a c : Option (Nat × R4)), (∀ x ∈ l, gdP b x.1) → o = joinG a c → (∀ r, a = some r → r.2.2.1 = 1 ∧ r.2.2.2.1 = 0) → (∀ r, c = some r → r.2.2.1 = 2) → l.foldl spStep o = joinG (l.foldl g1S a) (l.foldl g2S c)
  | [], o, a, c, _, h, _, _ => h
  | x :: t, o, a, c, hx, h, ha, hc => by
    have hp := hx x (by simp)
    obtain ⟨h1, h2, h3, h4⟩ := hp
    refine goer_fold (b := b) t _ _ _ (fun y hy => hx y (by simp [hy])) ?_ ?_ ?_
    · subst h
      unfold spStep g1S g2S
      rcases h1 with e | e | e
      · rw [e]
        simp only [show ((1 : Int) == 3) = false from rfl, show ((1 : Int) == 1) = true from rfl, show ((1 : Int) == 2) = false from rfl, cond_false, cond_true]
        cases a with
        | none =>
          cases c with
          | none => rfl
          | some q =>
            obtain ⟨j, q⟩ := q
            have hq := hc _ rfl
            have hb : bef q x.1 = false := by
              unfold bef
              rw [show (q.2.1 != x.1.2.1) = true by rw [e]; have : q.2.1 = 2 := hq; rw [this]; rfl]
              have : q.2.1 = 2 := hq
              rw [this]; rfl
            simp only [joinG, hb, cond_false]
        | some q =>
          obtain ⟨j, q⟩ := q
          obtain ⟨q1, q2⟩ := ha _ rfl
          have hb : bef q x.1 = false := by
            unfold bef
            have q1' : q.2.1 = 1 := q1
            have q2' : q.2.2.1 = 0 := q2
            rw [show (q.2.1 != x.1.2.1) = false by rw [e, q1']; rfl, q2', h4 e]; rfl
          simp only [joinG, hb, cond_false]
      · rw [e]
        simp only [show ((2 : Int) == 3) = false from rfl, show ((2 : Int) == 1) = false from rfl, show ((2 : Int) == 2) = true from rfl, cond_false, cond_true]
        cases a with
        | none =>
          cases c with
          | none => rfl
          | some q =>
            obtain ⟨j, q⟩ := q
            have hq : q.2.1 = 2 := hc _ rfl
            have hb : bef q x.1 = !(decide (x.1.2.2.1 ≤ q.2.2.1)) := by
              unfold bef
              rw [show (q.2.1 != x.1.2.1) = false by rw [e, hq]; rfl, cond_false]
              by_cases z : q.2.2.1 < x.1.2.2.1
              · rw [decide_eq_true z, decide_eq_false (by omega)]; rfl
              · rw [decide_eq_false z, decide_eq_true (by omega)]; rfl
            simp only [joinG, hb]
            cases decide (x.1.2.2.1 ≤ q.2.2.1) <;> rfl
        | some q =>
          obtain ⟨j, q⟩ := q
          have q1 : q.2.1 = 1 := (ha _ rfl).1
          have hb : bef q x.1 = true := by
            unfold bef
            rw [show (q.2.1 != x.1.2.1) = true by rw [e, q1]; rfl, q1]; rfl
          simp only [joinG, hb, cond_true]
      · rw [e]
        simp only [show ((3 : Int) == 3) = true from rfl, show ((3 : Int) == 1) = false from rfl, show ((3 : Int) == 2) = false from rfl, cond_false, cond_true]
    · intro r hr
      unfold g1S at hr
      cases q : x.1.2.1 == 1
      · rw [q] at hr; exact ha r hr
      · rw [q] at hr
        simp only [cond_true, Option.some.injEq] at hr
        subst hr
        have : x.1.2.1 = 1 := by simpa using q
        exact ⟨this, h4 this⟩
    · intro r hr
      unfold g2S at hr
      cases q : x.1.2.1 == 2
      · rw [q] at hr; exact hc r hr
      · rw [q] at hr
        have e2 : x.1.2.1 = 2 := by simpa using q
        cases c with
        | none => simp only [cond_true, Option.some.injEq] at hr; subst hr; exact e2
        | some s =>
          obtain ⟨j, s⟩ := s
          simp only [cond_true] at hr
          cases z : decide (x.1.2.2.1 ≤ s.2.2.1)
          · rw [z] at hr; exact hc r hr
          · rw [z] at hr; simp only [cond_true, Option.some.injEq] at hr; subst hr; exact e2
theorem goer_is {b : Int} {l : List R4} (h : gdL b l) : spO l = joinG (g1O l) (g2O l) :=
  goer_fold (b := b) l.zipIdx none none none (fun x hx => h _ (List.mem_of_getElem? (List.mem_zipIdx_iff_getElem?.1 hx))) rfl (fun r hr => by cases hr) (fun r hr => by cases hr)
theorem g1_next {l : List R4} {i : Int} (h : 0 ≤ i) (hj : i.toNat < l.length) : g1O (l.take (i + 1).toNat) = g1S (g1O (l.take i.toNat)) (l[i.toNat], i.toNat) := by
  unfold g1O; rw [zip_next h hj, List.foldl_append]; rfl
theorem g2_next {l : List R4} {i : Int} (h : 0 ≤ i) (hj : i.toNat < l.length) : g2O (l.take (i + 1).toNat) = g2S (g2O (l.take i.toNat)) (l[i.toNat], i.toNat) := by
  unfold g2O; rw [zip_next h hj, List.foldl_append]; rfl
theorem g2_fold : ∀ (l : List (R4 × Nat)) (o : Option (Nat × R4)) (r : Nat × R4), l.foldl g2S o = some r → o = some r ∨ ∃ x ∈ l, r = (x.2, x.1)
  | [], o, r, h => .inl h
  | x :: t, o, r, h => by
    rcases g2_fold t _ r h with h | ⟨y, hy, e⟩
    · unfold g2S at h
      cases q : x.1.2.1 == 2
      · rw [q] at h; exact .inl h
      · rw [q] at h
        cases o with
        | none => simp only [cond_true, Option.some.injEq] at h; exact .inr ⟨x, by simp, h.symm⟩
        | some s =>
          obtain ⟨j, s⟩ := s
          simp only [cond_true] at h
          cases z : decide (x.1.2.2.1 ≤ s.2.2.1)
          · rw [z] at h; exact .inl h
          · rw [z] at h; simp only [cond_true, Option.some.injEq] at h; exact .inr ⟨x, by simp, h.symm⟩
    · exact .inr ⟨y, by simp [hy], e⟩
theorem g2_at {l : List R4} {j : Nat} {q : R4} (h : g2O l = some (j, q)) : l[j]? = some q := by
  rcases g2_fold _ _ _ h with h | ⟨x, hx, e⟩
  · cases h
  · simp only [Prod.mk.injEq] at e
    obtain ⟨rfl, rfl⟩ := e
    exact List.mem_zipIdx_iff_getElem?.1 hx
def gi1 (b i : Int) : Bool → Int
  | true => i
  | false => b
theorem wayRg (p : PRg) (a : ARg) (e : Bool) : T.path [true, true, true, e] (rdRg p a) = some ([(decide (a.i < (p.n : Int)), true), (idR p.l p.n a.i, true), (ldR p.l a.i, true), ((g4 p.l a.i).2.1 == 1, e)], (.normal, FRg p ⟨gi1 a.b a.i e, IntKind.wrap .i64 (a.i + 1)⟩)) := by cases e <;> kernel_rfl
theorem wayRgx (p : PRg) (a : ARg) : T.path [false] (rdRg p a) = some ([(decide (a.i < (p.n : Int)), false)], (.exit 0, FRg p a)) := by kernel_rfl
def okRg (p : PRg) (a : ARg) : Prop := p.n = p.l.length ∧ p.l.length ≤ 100000 ∧ 0 ≤ a.i ∧ a.i ≤ p.n ∧ a.b = oV (g1O (p.l.take a.i.toNat))
def goRg (p : PRg) (a : ARg) : Bool := decide (a.i < (p.n : Int))
def muRg (p : PRg) (a : ARg) : Nat := (p.n - a.i).toNat
theorem stepRg (p : PRg) (a : ARg) (h : okRg p a) (hg : goRg p a = true) : ∃ b, stepC okRg rdRg FRg muRg p a b := by
  obtain ⟨h1, h3, h4, h5, h6⟩ := id h
  have hi : a.i < p.n := of_decide_eq_true hg
  have hw := w1 h4 hi (by omega)
  have hj : a.i.toNat < p.l.length := by omega
  obtain ⟨x1, x2⟩ := idR_is (g := p.l) (k := p.n) (i := a.i) h1 h4 (by omega)
  refine ⟨_, T.path_eval (wayRg p a ((g4 p.l a.i).2.1 == 1)) ⟨hg, x1, x2, rfl, trivial⟩, ⟨h1, h3, ?_, ?_, ?_⟩, ?_⟩
  · show 0 ≤ IntKind.wrap .i64 (a.i + 1); rw [hw]; omega
  · show IntKind.wrap .i64 (a.i + 1) ≤ p.n; rw [hw]; omega
  · show gi1 a.b a.i ((g4 p.l a.i).2.1 == 1) = oV (g1O (p.l.take (IntKind.wrap .i64 (a.i + 1)).toNat))
    rw [hw, g1_next h4 hj, g4_at hj]
    unfold g1S
    cases p.l[a.i.toNat].2.1 == 1
    · exact h6
    · show a.i = ((a.i.toNat : Nat) : Int); omega
  · show (p.n - IntKind.wrap .i64 (a.i + 1)).toNat < (p.n - a.i).toNat
    rw [hw]; omega
theorem exRg (p : PRg) (a : ARg) (h : okRg p a) (hg : goRg p a = false) : (rdRg p a).eval = some (.exit 0, FRg p a) := T.path_eval (wayRgx p a) ⟨hg, trivial⟩
noncomputable def famRg : LSpec := famC [0,3,4] SRg 1000 1000 71 decRg okRg goRg rdRg FRg muRg (.exit 0)
theorem lpRg_ok : LoopOk J0 lpRg famRg := famC_ok (vs := vsRg) (bs := bsRg) J0_ok mixed (noLoops_ok _) decRg_ok (by simp) (fun _ _ => rfl) (fun _ _ => rfl) stepRg exRg
def rhC (p : PRh) (a : ARh) (c : Bool) : Bool := bif ((g4 p.l a.i).2.1 == 2) == true && (decide (a.b < 0) == false && true) then c else true
def rhE (p : PRh) (a : ARh) : Bool := bif (g4 p.l a.i).2.1 == 2 then bif decide (a.b < 0) then true else decide ((g4 p.l a.i).2.2.1 ≤ (g4 p.l a.b).2.2.1) else false
theorem wayRh (p : PRh) (a : ARh) (e : Bool) : T.path [true, true, true, true, true, true, true, e] (rdRh p a) = some ([(decide (a.i < (p.n : Int)), true), (idR p.l p.n a.i, true), (ldR p.l a.i, true), (rhC p a (idR p.l p.n a.i), true), (rhC p a (ldR p.l a.i), true), (rhC p a (idR p.l p.n a.b), true), (rhC p a (ldR p.l a.b), true), (rhE p a, e)], (.normal, FRh p ⟨gi1 a.b a.i e, IntKind.wrap .i64 (a.i + 1)⟩)) := by cases e <;> kernel_rfl
theorem wayRhx (p : PRh) (a : ARh) : T.path [false] (rdRh p a) = some ([(decide (a.i < (p.n : Int)), false)], (.exit 2, FRh p a)) := by kernel_rfl
def okRh (p : PRh) (a : ARh) : Prop := p.n = p.l.length ∧ p.l.length ≤ 100000 ∧ 0 ≤ a.i ∧ a.i ≤ p.n ∧ a.b = oV (g2O (p.l.take a.i.toNat))
def goRh (p : PRh) (a : ARh) : Bool := decide (a.i < (p.n : Int))
def muRh (p : PRh) (a : ARh) : Nat := (p.n - a.i).toNat
theorem stepRh (p : PRh) (a : ARh) (h : okRh p a) (hg : goRh p a = true) : ∃ b, stepC okRh rdRh FRh muRh p a b := by
  obtain ⟨h1, h3, h4, h5, h6⟩ := id h
  have hi : a.i < p.n := of_decide_eq_true hg
  have hw := w1 h4 hi (by omega)
  have hj : a.i.toNat < p.l.length := by omega
  obtain ⟨x1, x2⟩ := idR_is (g := p.l) (k := p.n) (i := a.i) h1 h4 (by omega)
  have cT : ∀ {c : Bool}, c = true → rhC p a c = true := by
    intro c hc; subst hc; unfold rhC; cases (((g4 p.l a.i).2.1 == 2) == true && (decide (a.b < 0) == false && true)) <;> rfl
  have hb : rhC p a (idR p.l p.n a.b) = true ∧ rhC p a (ldR p.l a.b) = true ∧ (∀ j q, g2O (p.l.take a.i.toNat) = some (j, q) → g4 p.l a.b = q) := by
    cases ho : g2O (p.l.take a.i.toNat) with
    | none =>
      rw [ho] at h6
      have : decide (a.b < 0) = true := by rw [h6]; rfl
      unfold rhC
      rw [this]
      refine ⟨?_, ?_, fun j q hq => by cases hq⟩ <;> cases (g4 p.l a.i).2.1 == 2 <;> rfl
    | some r =>
      obtain ⟨j, q⟩ := r
      have hq := g2_at ho
      rw [ho] at h6
      have hb' : a.b = (j : Int) := h6
      have hjl : j < (p.l.take a.i.toNat).length := (List.getElem?_eq_some_iff.1 hq).1
      rw [List.length_take] at hjl
      obtain ⟨y1, y2⟩ := idR_is (g := p.l) (k := p.n) (i := a.b) h1 (by omega) (by omega)
      refine ⟨cT y1, cT y2, fun j' q' e => ?_⟩
      simp only [Option.some.injEq, Prod.mk.injEq] at e
      obtain ⟨rfl, rfl⟩ := e
      rw [List.getElem?_take] at hq
      split at hq
      · rw [hb', g4_k (by omega)]; exact (List.getElem?_eq_some_iff.1 hq).2
      · cases hq
  refine ⟨_, T.path_eval (wayRh p a (rhE p a)) ⟨hg, x1, x2, cT x1, cT x2, hb.1, hb.2.1, rfl, trivial⟩, ⟨h1, h3, ?_, ?_, ?_⟩, ?_⟩
  · show 0 ≤ IntKind.wrap .i64 (a.i + 1); rw [hw]; omega
  · show IntKind.wrap .i64 (a.i + 1) ≤ p.n; rw [hw]; omega
  · show gi1 a.b a.i (rhE p a) = oV (g2O (p.l.take (IntKind.wrap .i64 (a.i + 1)).toNat))
    rw [hw, g2_next h4 hj]
    unfold g2S rhE
    rw [g4_at hj]
    have hin : a.i = ((a.i.toNat : Nat) : Int) := by omega
    cases p.l[a.i.toNat].2.1 == 2
    · exact h6
    · cases ho : g2O (p.l.take a.i.toNat) with
      | none =>
        rw [ho] at h6
        have : decide (a.b < 0) = true := by rw [h6]; rfl
        rw [this]; exact hin
      | some r =>
        obtain ⟨j, q⟩ := r
        have e3 := hb.2.2 j q ho
        rw [ho] at h6
        have hb' : a.b = (j : Int) := h6
        rw [decide_eq_false (show ¬ a.b < 0 by omega), e3]
        simp only [cond_true, cond_false]
        cases decide (p.l[a.i.toNat].2.2.1 ≤ q.2.2.1)
        · exact hb'
        · exact hin
  · show (p.n - IntKind.wrap .i64 (a.i + 1)).toNat < (p.n - a.i).toNat
    rw [hw]; omega
theorem exRh (p : PRh) (a : ARh) (h : okRh p a) (hg : goRh p a = false) : (rdRh p a).eval = some (.exit 2, FRh p a) := T.path_eval (wayRhx p a) ⟨hg, trivial⟩
noncomputable def famRh : LSpec := famC [0,3,5] SRh 1500 1500 71 decRh okRh goRh rdRh FRh muRh (.exit 2)
theorem lpRh_ok : LoopOk J0 lpRh famRh := famC_ok (vs := vsRh) (bs := bsRh) J0_ok mixed (noLoops_ok _) decRh_ok (by simp) (fun _ _ => rfl) (fun _ _ => rfl) stepRh exRh
/-! ### Ready -/
def rd1 (a : ARd) (x : Int) : Bool → ARd
  | true => ⟨List.take a.j a.W ++ [x], a.j + [x].length, IntKind.wrap .i64 (a.i + 1)⟩
  | false => ⟨a.W, a.j, IntKind.wrap .i64 (a.i + 1)⟩
theorem wayRd1 (p : PRd) (a : ARd) : T.path [true, true, true, true, true, true, true] (rdRd p a) = some ([(decide (a.i < (p.n : Int)), true), (idR p.l p.n a.i, true), (ldR p.l a.i, true), ((g4 p.l a.i).2.1 == 2, true), (idR p.l p.n a.i, true), (ldR p.l a.i, true), (apC a.j a.W (g4 p.l a.i).1, true)], (.normal, FRd p (rd1 a (g4 p.l a.i).1 true))) := by kernel_rfl
theorem wayRd0 (p : PRd) (a : ARd) : T.path [true, true, true, false] (rdRd p a) = some ([(decide (a.i < (p.n : Int)), true), (idR p.l p.n a.i, true), (ldR p.l a.i, true), ((g4 p.l a.i).2.1 == 2, false)], (.normal, FRd p (rd1 a (g4 p.l a.i).1 false))) := by kernel_rfl
theorem wayRdx (p : PRd) (a : ARd) : T.path [false] (rdRd p a) = some ([(decide (a.i < (p.n : Int)), false)], (.exit 0, FRd p a)) := by kernel_rfl
def okRd (p : PRd) (a : ARd) : Prop := p.n = p.l.length ∧ p.l.length ≤ 100000 ∧ 0 ≤ a.i ∧ a.i ≤ p.n ∧ a.j = a.W.length ∧ a.W = rdy (p.l.take a.i.toNat)
def goRd (p : PRd) (a : ARd) : Bool := decide (a.i < (p.n : Int))
def muRd (p : PRd) (a : ARd) : Nat := (p.n - a.i).toNat
theorem stepRd (p : PRd) (a : ARd) (h : okRd p a) (hg : goRd p a = true) : ∃ b, stepC okRd rdRd FRd muRd p a b := by
  obtain ⟨h1, h3, h4, h5, h6, h7⟩ := id h
  have hi : a.i < p.n := of_decide_eq_true hg
  have hw := w1 h4 hi (by omega)
  have hj : a.i.toNat < p.l.length := by omega
  obtain ⟨x1, x2⟩ := idR_is (g := p.l) (k := p.n) (i := a.i) h1 h4 (by omega)
  have hl : a.W.length ≤ p.l.length := by
    rw [h7]
    exact Nat.le_trans (rdy_le _) (by rw [List.length_take]; omega)
  have hn := rdy_next h4 hj
  have hmu : (p.n - IntKind.wrap .i64 (a.i + 1)).toNat < (p.n - a.i).toNat := by rw [hw]; omega
  have i1 : 0 ≤ IntKind.wrap .i64 (a.i + 1) := by rw [hw]; omega
  have i2 : IntKind.wrap .i64 (a.i + 1) ≤ p.n := by rw [hw]; omega
  cases hs : (g4 p.l a.i).2.1 == 2
  · refine ⟨_, T.path_eval (wayRd0 p a) ⟨hg, x1, x2, hs, trivial⟩, ⟨h1, h3, i1, i2, h6, ?_⟩, hmu⟩
    show a.W = rdy (p.l.take (IntKind.wrap .i64 (a.i + 1)).toNat)
    rw [g4_at hj] at hs
    rw [hw, hn, hs, cond_false, List.append_nil, h7]
  · refine ⟨_, T.path_eval (wayRd1 p a) ⟨hg, x1, x2, hs, x1, x2, apC_is _ h6 (by omega), trivial⟩, ⟨h1, h3, i1, i2, ?_, ?_⟩, hmu⟩
    · show a.j + 1 = (List.take a.j a.W ++ [(g4 p.l a.i).1]).length
      rw [h6, List.take_length]; simp
    · show List.take a.j a.W ++ [(g4 p.l a.i).1] = rdy (p.l.take (IntKind.wrap .i64 (a.i + 1)).toNat)
      rw [g4_at hj] at hs
      rw [hw, hn, hs, cond_true, h6, List.take_length, h7, g4_at hj]
theorem exRd (p : PRd) (a : ARd) (h : okRd p a) (hg : goRd p a = false) : (rdRd p a).eval = some (.exit 0, FRd p a) := T.path_eval (wayRdx p a) ⟨hg, trivial⟩
noncomputable def famRd : LSpec := famC [0,3,4] SRd 1000 1001 35 decRd okRd goRd rdRd FRd muRd (.exit 0)
theorem lpRd_ok : LoopOk J0 lpRd famRd := famC_ok (vs := vsRd) (bs := bsRd) J0_ok mixed (noLoops_ok _) decRd_ok (by simp) (fun _ _ => rfl) (fun _ _ => rfl) stepRd exRd
/-! ### at -/
theorem wayRt0 (p : PRt) (a : ARt) : T.path [true, true, true, false] (rdRt p a) = some ([(decide (a.i < (p.n : Int)), true), (idR p.l p.n a.i, true), (ldR p.l a.i, true), ((g4 p.l a.i).1 == p.id, false)], (.normal, FRt p ⟨IntKind.wrap .i64 (a.i + 1)⟩)) := by kernel_rfl
theorem wayRt1 (p : PRt) (a : ARt) : T.path [true, true, true, true] (rdRt p a) = some ([(decide (a.i < (p.n : Int)), true), (idR p.l p.n a.i, true), (ldR p.l a.i, true), ((g4 p.l a.i).1 == p.id, true)], (.ret, mkSt [0,4] [0,1] 1000 26 [.ptr 0 0, iv a.i] (bsRt p a))) := by kernel_rfl
theorem wayRtx (p : PRt) (a : ARt) : T.path [false] (rdRt p a) = some ([(decide (a.i < (p.n : Int)), false)], (.exit 0, mkSt [0,4] [0,1] 1000 26 [.ptr 0 0, .junk] (bsRt p a))) := by kernel_rfl
def okRt (p : PRt) (a : ARt) : Prop := p.n = p.l.length ∧ p.l.length ≤ 100000 ∧ 0 ≤ a.i ∧ a.i ≤ p.n ∧ findI p.id (p.l.take a.i.toNat) = none
def goRt (p : PRt) (a : ARt) : Bool := decide (a.i < (p.n : Int)) && !((g4 p.l a.i).1 == p.id)
def muRt (p : PRt) (a : ARt) : Nat := (p.n - a.i).toNat
def outRt (p : PRt) (a : ARt) : T (Ex × St) := .ite none (findI p.id p.l).isSome (.ret (.ret, mkSt [0,4] [0,1] 1000 26 [.ptr 0 0, iv ((findI p.id p.l).getD 0 : Nat)] (bsRt p a))) (.ret (.exit 0, mkSt [0,4] [0,1] 1000 26 [.ptr 0 0, .junk] (bsRt p a)))
theorem stepRt (p : PRt) (a : ARt) (h : okRt p a) (hg : goRt p a = true) : ∃ b, stepC okRt rdRt FRt muRt p a b := by
  obtain ⟨h1, h3, h4, h5, h6⟩ := id h
  obtain ⟨hg1, hg2⟩ := (Bool.and_eq_true _ _).mp hg
  have hi : a.i < p.n := of_decide_eq_true hg1
  have hw := w1 h4 hi (by omega)
  have hj : a.i.toNat < p.l.length := by omega
  obtain ⟨x1, x2⟩ := idR_is (g := p.l) (k := p.n) (i := a.i) h1 h4 (by omega)
  have hb : ((g4 p.l a.i).1 == p.id) = false := by cases q : (g4 p.l a.i).1 == p.id <;> simp_all
  refine ⟨_, T.path_eval (wayRt0 p a) ⟨hg1, x1, x2, hb, trivial⟩, ⟨h1, h3, ?_, ?_, ?_⟩, ?_⟩
  · show 0 ≤ IntKind.wrap .i64 (a.i + 1); rw [hw]; omega
  · show IntKind.wrap .i64 (a.i + 1) ≤ p.n; rw [hw]; omega
  · show findI p.id (p.l.take (IntKind.wrap .i64 (a.i + 1)).toNat) = none
    rw [hw]
    rw [g4_at hj] at hb
    exact findI_next h4 hj h6 hb
  · show (p.n - IntKind.wrap .i64 (a.i + 1)).toNat < (p.n - a.i).toNat
    rw [hw]; omega
theorem exRt (p : PRt) (a : ARt) (h : okRt p a) (hg : goRt p a = false) (r : Ex × St) (hr : (outRt p a).eval = some r) : r.1 ≠ .normal ∧ (rdRt p a).eval = some r := by
  obtain ⟨h1, h3, h4, h5, h6⟩ := id h
  cases hi : decide (a.i < (p.n : Int))
  · have hi' : ¬ a.i < p.n := of_decide_eq_false hi
    have hn : findI p.id p.l = none := by
      have : p.l.take a.i.toNat = p.l := List.take_of_length_le (by omega)
      rw [this] at h6; exact h6
    simp only [outRt, hn, Option.isSome_none, T.eval, cond_false, Option.some.injEq] at hr
    subst hr
    exact ⟨by simp, T.path_eval (wayRtx p a) ⟨hi, trivial⟩⟩
  · have hj : a.i.toNat < p.l.length := by have := of_decide_eq_true hi; omega
    have hb : ((g4 p.l a.i).1 == p.id) = true := by
      unfold goRt at hg; rw [hi] at hg
      cases q : (g4 p.l a.i).1 == p.id
      · rw [q] at hg; simp at hg
      · rfl
    obtain ⟨x1, x2⟩ := idR_is (g := p.l) (k := p.n) (i := a.i) h1 h4 (by have := of_decide_eq_true hi; omega)
    have hn : findI p.id p.l = some a.i.toNat := findI_hit hj h6 (by rw [g4_at hj] at hb; exact hb)
    simp only [outRt, hn, Option.isSome_some, T.eval, cond_true, Option.some.injEq] at hr
    subst hr
    refine ⟨by simp, (T.path_eval (wayRt1 p a) ⟨hi, x1, x2, hb, trivial⟩).trans ?_⟩
    rw [show a.i = ((a.i.toNat : Nat) : Int) by omega]; rfl
noncomputable def famRt : LSpec := famE [0,1,5] SRt SRtx 1000 1000 26 decRt okRt goRt rdRt FRt muRt outRt
theorem lpRt_ok : LoopOk J0 lpRt famRt := famE_ok (vs := vsRt) (bs := bsRt) J0_ok mixed (noLoops_ok _) decRt_ok (fun _ _ => rfl) (fun _ _ => rfl) stepRt exRt
end Go.Proofs.Ytfnadebkobfemaa.Lif
