/- Layer 21: the document's own pods: Ripe, Pods, Ints: rounds; contracts. -/
import Derived.Test.YtfnadebkobfemaaLifRb
namespace Go.Proofs.Ytfnadebkobfemaa.Lif
open Go.Eng Go.RowKit
set_option linter.unusedVariables false
set_option linter.unusedSimpArgs false
def rC2 (g : Bool) (c : Bool) : Bool := bif g == true && true then c else true
theorem rC2_is {g c : Bool} (h : c = true) : rC2 g c = true := by subst h; unfold rC2; cases g <;> rfl
/-! ### Ripe -/
def rrG (p : PRr) (a : ARr) : Bool := bif bif decide (a.i < (p.n : Int)) then decide (0 ≤ p.a) else false then decide (p.a ≤ 100) else false
theorem wayRr1 (p : PRr) (a : ARr) : T.path [true, true, true, true, true, true, true, true] (rdRr p a) = some ([(rrG p a, true), (idR a.l p.n a.i, true), (ldR a.l a.i, true), (rC2 ((g4 a.l a.i).2.1 == 1) (idR a.l p.n a.i), true), (rC2 ((g4 a.l a.i).2.1 == 1) (ldR a.l a.i), true), (bif (g4 a.l a.i).2.1 == 1 then decide (IntKind.wrap .i64 ((g4 a.l a.i).2.2.2 + p.a) ≤ p.now) else false, true), (idR a.l p.n a.i, true), (ldR a.l a.i, true)],
    (.normal, FRr p ⟨a.l.set (0 + a.i.toNat) ((g4 a.l a.i).1, 2, (g4 a.l a.i).2.2.1, (g4 a.l a.i).2.2.2), IntKind.wrap .i64 (a.i + 1)⟩)) := by kernel_rfl
theorem wayRr0 (p : PRr) (a : ARr) : T.path [true, true, true, true, true, false] (rdRr p a) = some ([(rrG p a, true), (idR a.l p.n a.i, true), (ldR a.l a.i, true), (rC2 ((g4 a.l a.i).2.1 == 1) (idR a.l p.n a.i), true), (rC2 ((g4 a.l a.i).2.1 == 1) (ldR a.l a.i), true), (bif (g4 a.l a.i).2.1 == 1 then decide (IntKind.wrap .i64 ((g4 a.l a.i).2.2.2 + p.a) ≤ p.now) else false, false)],
    (.normal, FRr p ⟨a.l, IntKind.wrap .i64 (a.i + 1)⟩)) := by kernel_rfl
theorem wayRrx (p : PRr) (a : ARr) : T.path [false] (rdRr p a) = some ([(rrG p a, false)], (.exit 0, FRr p a)) := by kernel_rfl
def okRr (p : PRr) (a : ARr) : Prop := p.n = p.l0.length ∧ p.l0.length ≤ 100000 ∧ okT p.l0 ∧ 0 ≤ a.i ∧ a.i ≤ p.n ∧ (0 ≤ p.a ∧ p.a ≤ 100 ∨ a.i = 0) ∧ a.l = ripeTo p.now p.a p.l0 a.i.toNat
def goRr (p : PRr) (a : ARr) : Bool := rrG p a
def muRr (p : PRr) (a : ARr) : Nat := (p.n - a.i).toNat
theorem stepRr (p : PRr) (a : ARr) (h : okRr p a) (hg : goRr p a = true) : ∃ b, stepC okRr rdRr FRr muRr p a b := by
  obtain ⟨h1, h3, h4, h7, h8, hr, h9⟩ := id h
  have hg0 : ((decide (a.i < (p.n : Int)) && decide (0 ≤ p.a)) && decide (p.a ≤ 100)) = true := by rw [← cond_and, ← cond_and]; exact hg
  simp only [Bool.and_eq_true, decide_eq_true_eq] at hg0
  obtain ⟨⟨hi, h5⟩, h6⟩ := hg0
  have hw := w1 h7 hi (by omega)
  have hj : a.i.toNat < p.l0.length := by omega
  have hl : a.l.length = p.l0.length := by rw [h9]; exact ripeTo_len _ _ _ _ (by omega)
  obtain ⟨x1, x2⟩ := idR_is (g := a.l) (k := p.n) (i := a.i) (by omega) h7 (by omega)
  have hat : a.l[a.i.toNat]? = some p.l0[a.i.toNat] := by rw [h9]; exact ripeTo_at hj
  have hg4 : g4 a.l a.i = p.l0[a.i.toNat] := by
    rw [g4_at (by omega)]
    exact (List.getElem?_eq_some_iff.1 hat).2
  have hT := h4 _ (List.getElem_mem hj)
  have hmu : (p.n - IntKind.wrap .i64 (a.i + 1)).toNat < (p.n - a.i).toNat := by rw [hw]; omega
  have i1 : 0 ≤ IntKind.wrap .i64 (a.i + 1) := by rw [hw]; omega
  have i2 : IntKind.wrap .i64 (a.i + 1) ≤ p.n := by rw [hw]; omega
  have hi1 : (a.i + 1).toNat = a.i.toNat + 1 := by omega
  have hnx := ripeTo_next (now := p.now) (a := p.a) hj
  have hwr : IntKind.wrap .i64 ((g4 a.l a.i).2.2.2 + p.a) = (g4 a.l a.i).2.2.2 + p.a := by rw [hg4]; exact wrap64_in (by omega) (by omega)
  cases hs : (bif (g4 a.l a.i).2.1 == 1 then decide (IntKind.wrap .i64 ((g4 a.l a.i).2.2.2 + p.a) ≤ p.now) else false)
  · refine ⟨_, T.path_eval (wayRr0 p a) ⟨hg, x1, x2, rC2_is x1, rC2_is x2, hs, trivial⟩, ⟨h1, h3, h4, i1, i2, .inl ⟨h5, h6⟩, ?_⟩, hmu⟩
    show a.l = ripeTo p.now p.a p.l0 (IntKind.wrap .i64 (a.i + 1)).toNat
    rw [hw, hi1, ← hnx, h9]
    symm
    apply set_same'
    rw [hwr, hg4] at hs
    have : ripe p.now p.a p.l0[a.i.toNat] = p.l0[a.i.toNat] := by
      unfold ripe
      cases q : p.l0[a.i.toNat].2.1 == 1
      · rfl
      · rw [q] at hs; simp only [cond_true] at hs; rw [hs]; rfl
    rw [this]; exact ripeTo_at hj
  · refine ⟨_, T.path_eval (wayRr1 p a) ⟨hg, x1, x2, rC2_is x1, rC2_is x2, hs, x1, x2, trivial⟩, ⟨h1, h3, h4, i1, i2, .inl ⟨h5, h6⟩, ?_⟩, hmu⟩
    show a.l.set (0 + a.i.toNat) _ = ripeTo p.now p.a p.l0 (IntKind.wrap .i64 (a.i + 1)).toNat
    rw [hw, hi1, ← hnx, h9.symm, Nat.zero_add]
    congr 1
    rw [hwr, hg4] at hs
    rw [hg4]
    unfold ripe
    cases q : p.l0[a.i.toNat].2.1 == 1
    · rw [q] at hs; simp at hs
    · rw [q] at hs; simp only [cond_true] at hs; rw [hs]; rfl
theorem exRr (p : PRr) (a : ARr) (h : okRr p a) (hg : goRr p a = false) : (rdRr p a).eval = some (.exit 0, FRr p a) := T.path_eval (wayRrx p a) ⟨hg, trivial⟩
noncomputable def famRr : LSpec := famC [0,1,2,6] SRr 1000 1000 54 decRr okRr goRr rdRr FRr muRr (.exit 0)
theorem lpRr_ok : LoopOk J0 lpRr famRr := famC_ok (vs := vsRr) (bs := bsRr) J0_ok mixed (noLoops_ok _) decRr_ok (by simp) (fun _ _ => rfl) (fun _ _ => rfl) stepRr exRr
/-! ### Pods, Ints -/
def peE (x y : R4) : Bool := !(x.1 == y.1 && (x.2.1 == y.2.1 && (x.2.2.1 == y.2.2.1 && (x.2.2.2 == y.2.2.2 && true))))
theorem wayPe (p : PPe) (a : APe) : T.path [true, true, true, true, true, false] (rdPe p a) = some ([(decide (a.i < (p.n : Int)), true), (idR p.a p.n a.i, true), (ldR p.a a.i, true), (idR p.b p.k a.i, true), (ldR p.b a.i, true), (peE (g4 p.a a.i) (g4 p.b a.i), false)], (.normal, FPe p ⟨IntKind.wrap .i64 (a.i + 1)⟩)) := by kernel_rfl
theorem wayPex (p : PPe) (a : APe) : T.path [false] (rdPe p a) = some ([(decide (a.i < (p.n : Int)), false)], (.exit 0, FPe p a)) := by kernel_rfl
def okPe (p : PPe) (a : APe) : Prop := p.a = p.b ∧ p.n = p.a.length ∧ p.k = p.b.length ∧ p.a.length ≤ 100000 ∧ 0 ≤ a.i ∧ a.i ≤ p.n
def goPe (p : PPe) (a : APe) : Bool := decide (a.i < (p.n : Int))
def muPe (p : PPe) (a : APe) : Nat := (p.n - a.i).toNat
theorem stepPe (p : PPe) (a : APe) (h : okPe p a) (hg : goPe p a = true) : ∃ b, stepC okPe rdPe FPe muPe p a b := by
  obtain ⟨h1, h2, h3, h4, h5, h6⟩ := id h
  have hi : a.i < (p.n : Int) := of_decide_eq_true hg
  have hw := w1 h5 hi (by omega)
  have hl : p.a.length = p.b.length := by rw [h1]
  obtain ⟨x1, x2⟩ := idR_is (g := p.a) (k := p.n) (i := a.i) h2 h5 (by omega)
  obtain ⟨y1, y2⟩ := idR_is (g := p.b) (k := p.k) (i := a.i) h3 h5 (by omega)
  refine ⟨_, T.path_eval (wayPe p a) ⟨hg, x1, x2, y1, y2, by rw [h1]; simp [peE], trivial⟩, ⟨h1, h2, h3, h4, ?_, ?_⟩, ?_⟩
  · show 0 ≤ IntKind.wrap .i64 (a.i + 1); rw [hw]; omega
  · show IntKind.wrap .i64 (a.i + 1) ≤ p.n; rw [hw]; omega
  · show (p.n - IntKind.wrap .i64 (a.i + 1)).toNat < (p.n - a.i).toNat
    rw [hw]; omega
theorem exPe (p : PPe) (a : APe) (h : okPe p a) (hg : goPe p a = false) : (rdPe p a).eval = some (.exit 0, FPe p a) := T.path_eval (wayPex p a) ⟨hg, trivial⟩
noncomputable def famPe : LSpec := famC [0,1,5] SPe 1000 1000 26 decPe okPe goPe rdPe FPe muPe (.exit 0)
theorem lpPe_ok : LoopOk JE lpPe famPe := famC_ok (vs := vsPe) (bs := bsPe) JE_ok mixed (noLoops_ok _) decPe_ok (by simp) (fun _ _ => rfl) (fun _ _ => rfl) stepPe exPe
theorem wayIe (p : PIe) (a : AIe) : T.path [true, true, true, true, true, false] (rdIe p a) = some ([(decide (a.i < (p.n : Int)), true), (idR p.a p.n a.i, true), (ldR p.a a.i, true), (idR p.b p.k a.i, true), (ldR p.b a.i, true), (gI p.a a.i != gI p.b a.i, false)], (.normal, FIe p ⟨IntKind.wrap .i64 (a.i + 1)⟩)) := by kernel_rfl
theorem wayIex (p : PIe) (a : AIe) : T.path [false] (rdIe p a) = some ([(decide (a.i < (p.n : Int)), false)], (.exit 0, FIe p a)) := by kernel_rfl
def okIe (p : PIe) (a : AIe) : Prop := p.a = p.b ∧ p.n = p.a.length ∧ p.k = p.b.length ∧ p.a.length ≤ 100000 ∧ 0 ≤ a.i ∧ a.i ≤ p.n
def goIe (p : PIe) (a : AIe) : Bool := decide (a.i < (p.n : Int))
def muIe (p : PIe) (a : AIe) : Nat := (p.n - a.i).toNat
theorem stepIe (p : PIe) (a : AIe) (h : okIe p a) (hg : goIe p a = true) : ∃ b, stepC okIe rdIe FIe muIe p a b := by
  obtain ⟨h1, h2, h3, h4, h5, h6⟩ := id h
  have hi : a.i < (p.n : Int) := of_decide_eq_true hg
  have hw := w1 h5 hi (by omega)
  have hl : p.a.length = p.b.length := by rw [h1]
  obtain ⟨x1, x2⟩ := idR_is (g := p.a) (k := p.n) (i := a.i) h2 h5 (by omega)
  obtain ⟨y1, y2⟩ := idR_is (g := p.b) (k := p.k) (i := a.i) h3 h5 (by omega)
  refine ⟨_, T.path_eval (wayIe p a) ⟨hg, x1, x2, y1, y2, by rw [h1]; simp, trivial⟩, ⟨h1, h2, h3, h4, ?_, ?_⟩, ?_⟩
  · show 0 ≤ IntKind.wrap .i64 (a.i + 1); rw [hw]; omega
  · show IntKind.wrap .i64 (a.i + 1) ≤ p.n; rw [hw]; omega
  · show (p.n - IntKind.wrap .i64 (a.i + 1)).toNat < (p.n - a.i).toNat
    rw [hw]; omega
theorem exIe (p : PIe) (a : AIe) (h : okIe p a) (hg : goIe p a = false) : (rdIe p a).eval = some (.exit 0, FIe p a) := T.path_eval (wayIex p a) ⟨hg, trivial⟩
noncomputable def famIe : LSpec := famC [0,1,5] SIe 1000 1000 26 decIe okIe goIe rdIe FIe muIe (.exit 0)
theorem lpIe_ok : LoopOk JE lpIe famIe := famC_ok (vs := vsIe) (bs := bsIe) JE_ok mixed (noLoops_ok _) decIe_ok (by simp) (fun _ _ => rfl) (fun _ _ => rfl) stepIe exIe
noncomputable def podsE : Eng.Spec := execS JE (byReg [(rgPe, famPe)]) 38
theorem podsE_ok : SpecOk Try.prog 38 podsE := execS_loops JE_ok mixed Try.func38 (by kernel_rfl) (by kernel_rfl) (one_lp (c := lpPe) (by kernel_rfl) rgPe_is lpPe_ok)
noncomputable def intsE : Eng.Spec := execS JE (byReg [(rgIe, famIe)]) 39
theorem intsE_ok : SpecOk Try.prog 39 intsE := execS_loops JE_ok mixed Try.func39 (by kernel_rfl) (by kernel_rfl) (one_lp (c := lpIe) (by kernel_rfl) rgIe_is lpIe_ok)
theorem wayPods (a b : List R4) : T.path [false, true] (podsE [podO a, podO b]) = some ([((a.length : Int) != b.length, false), (invC okPe ⟨a, b, a.length, b.length⟩ ⟨0⟩, true)], .tt) := by kernel_rfl
def intO (l : List Int) : V := .orow 3 [.int .i64] l
theorem wayInts (a b : List Int) : T.path [false, true] (intsE [intO a, intO b]) = some ([((a.length : Int) != b.length, false), (invC okIe ⟨a, b, a.length, b.length⟩ ⟨0⟩, true)], .tt) := by kernel_rfl
theorem pods_run {a : List R4} (h : a.length ≤ 100000) : (podsE [podO a, podO a]).eval = some .tt :=
  T.path_eval (wayPods a a) ⟨by simp, invC_is ⟨rfl, rfl, rfl, h, Int.le_refl _, by show (0 : Int) ≤ (a.length : Int); omega⟩, trivial⟩
theorem ints_run {a : List Int} (h : a.length ≤ 100000) : (intsE [intO a, intO a]).eval = some .tt :=
  T.path_eval (wayInts a a) ⟨by simp, invC_is ⟨rfl, rfl, rfl, h, Int.le_refl _, by show (0 : Int) ≤ (a.length : Int); omega⟩, trivial⟩
def eqPods (a b : List R4) : Bool := decide (a = b ∧ a.length ≤ 100000)
def eqInts (a b : List Int) : Bool := decide (a = b ∧ a.length ≤ 100000)
theorem eqPods_is {a b : List R4} (h : eqPods a b = true) : a = b ∧ a.length ≤ 100000 := of_decide_eq_true h
theorem eqInts_is {a b : List Int} (h : eqInts a b = true) : a = b ∧ a.length ≤ 100000 := of_decide_eq_true h
def podsC : Eng.Spec
  | [.orow t [.int .i64, .int .i64, .int .i64, .int .i64] a, .orow t' [.int .i64, .int .i64, .int .i64, .int .i64] b] => if t = 39 then if t' = 39 then .ite none (eqPods a b) (.ret .tt) .fail else .fail else .fail
  | _ => .fail
theorem podsC_ok : SpecOk Try.prog 38 podsC := podsE_ok.of_eval fun args v hv => by
  unfold podsC at hv
  split at hv
  · split at hv
    · rename_i e1
      subst e1
      split at hv
      · rename_i e2
        subst e2
        obtain ⟨hc, hv'⟩ := ite_some hv
        clear hv
        obtain ⟨e, hl⟩ := eqPods_is hc
        subst e
        simp only [T.eval, Option.some.injEq] at hv'
        subst hv'
        exact pods_run hl
      · cases hv
    · cases hv
  · cases hv
def intsC : Eng.Spec
  | [.orow t [.int .i64] a, .orow t' [.int .i64] b] => if t = 3 then if t' = 3 then .ite none (eqInts a b) (.ret .tt) .fail else .fail else .fail
  | _ => .fail
theorem intsC_ok : SpecOk Try.prog 39 intsC := intsE_ok.of_eval fun args v hv => by
  unfold intsC at hv
  split at hv
  · split at hv
    · rename_i e1
      subst e1
      split at hv
      · rename_i e2
        subst e2
        obtain ⟨hc, hv'⟩ := ite_some hv
        clear hv
        obtain ⟨e, hl⟩ := eqInts_is hc
        subst e
        simp only [T.eval, Option.some.injEq] at hv'
        subst hv'
        exact ints_run hl
      · cases hv
    · cases hv
  · cases hv
/-! ### contracts of the document's own pods -/
def dR : Heap → Option (Int × Nat × List R4)
  | [(0, .cells t0 [.sub 1 4 0 n, .s (.int .i64 m)]), (1, .lst true t1 [.int .i64, .int .i64, .int .i64, .int .i64] l)] => if t0 = 49 then if t1 = 39 then some (m, n, l) else none else none
  | _ => none
theorem dR_ok {h : Heap} {x : Int × Nat × List R4} (e : dR h = some x) : h = hR x.1 x.2.1 x.2.2 := by
  unfold dR at e
  split at e
  · obtain ⟨e0, e⟩ := ite_some0 e
    obtain ⟨e1, e⟩ := ite_some0 e
    subst e0 e1
    cases e
    rfl
  · cases e
noncomputable def rcE : Eng.Obj := execO J0 (byReg [(rgRc, famRc)]) 42
theorem rcE_ok : ObjOk Try.prog 42 rcE := execO_loops J0_ok mixed Try.func42 (by kernel_rfl) (by kernel_rfl) (one_lp (c := lpRc) (by kernel_rfl) rgRc_is lpRc_ok)
noncomputable def eRc (p : PRc) : ARc := endW (nxtC okRc goRc rdRc FRc muRc p) ⟨0, 0⟩
theorem wayRcE (m : Int) (n : Nat) (l : List R4) : T.path [true] (rcE [.ptr 0 0] (hR m n l)) = some ([(invC okRc ⟨m, n, l⟩ ⟨0, 0⟩, true)], (iv (eRc ⟨m, n, l⟩).c, hR m n l)) := by kernel_rfl
theorem rc_run {m : Int} {n : Nat} {l : List R4} (h : okN n l = true) : (rcE [.ptr 0 0] (hR m n l)).eval = some (iv (cnt l), hR m n l) := by
  obtain ⟨h1, h2⟩ := okN_is h
  have h0 : okRc ⟨m, n, l⟩ ⟨0, 0⟩ := ⟨h1, h2, Int.le_refl _, by show (0 : Int) ≤ n; omega, rfl⟩
  obtain ⟨k1, k2⟩ := endC stepRc h0
  refine (T.path_eval (wayRcE m n l) ⟨invC_is h0, trivial⟩).trans ?_
  obtain ⟨_, _, _, q2, q3⟩ := k1
  have q1' : ¬ (eRc ⟨m, n, l⟩).i < (n : Int) := of_decide_eq_false k2
  have q3' : (eRc ⟨m, n, l⟩).c = cnt (l.take (eRc ⟨m, n, l⟩).i.toNat) := q3
  rw [q3', List.take_of_length_le (by omega)]
def rcC (args : List V) (h : Heap) : T (V × Heap) := match args with
  | [.ptr 0 0] => opt (dR h) fun x => .ite none (okN x.2.1 x.2.2) (.ret (iv (cnt x.2.2), hR x.1 x.2.1 x.2.2)) .fail
  | _ => .fail
theorem rcC_ok : ObjOk Try.prog 42 rcC := rcE_ok.of_eval fun args h v hv => by
  unfold rcC at hv
  split at hv
  · obtain ⟨⟨m, n, l⟩, hd, hv⟩ := opt_eval hv
    have := dR_ok hd
    subst this
    obtain ⟨hc, hv⟩ := ite_some hv
    simp only [T.eval, Option.some.injEq] at hv
    subst hv
    exact rc_run hc
  · cases hv
end Go.Proofs.Ytfnadebkobfemaa.Lif
