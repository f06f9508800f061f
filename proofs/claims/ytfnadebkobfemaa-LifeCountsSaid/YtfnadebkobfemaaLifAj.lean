/- Layer 21: LifeNumbers: its outer loop. -/
import Derived.Test.YtfnadebkobfemaaLifAi
namespace Go.Proofs.Ytfnadebkobfemaa.Lif
open Go.Eng Go.RowKit
set_option linter.unusedVariables false
set_option linter.unusedSimpArgs false
noncomputable def lpNo : Code := lpN0
structure PNo where (g : List Int) (kg : Nat)
structure ANo where (top : Int) (sm : Int) (i : Int) (m : Int) (n : Nat) (l : List R4)
abbrev SNo : List (Nat × Src) := [(0, .same), (1, .same), (2000, .cell 1 1)]
def vsNo (p : PNo) (a : ANo) : List V := [.sub 0 1 0 p.kg, .ptr 1 0, iv a.top, iv a.sm, iv a.i]
def bsNo (p : PNo) (a : ANo) : List Blk := [.lst false 3 [.int .i64] p.g, .cells 108 [iv a.m, .sub 2000 4 0 a.n], .lst true 39 [.int .i64, .int .i64, .int .i64, .int .i64] a.l]
noncomputable def FNo (p : PNo) (a : ANo) : St := mkSt [0,3,4,5,6] (keysR SNo) 2001 132 (vsNo p a) (bsNo p a)
noncomputable def rdNo (p : PNo) (a : ANo) : T (Ex × St) := T.anon (roundN JL (byReg [(rgNj, famNj)]) lpNo [0,3,4,5,6] SNo 2000 2001 (mkSt [0,3,4,5,6] (keysR SNo) 2001 132 (vsNo p a) (bsNo p a)))
def decNo : List V → List Blk → Option (PNo × ANo)
  | [.sub 0 1 0 kg, .ptr 1 0, .s (.int .i64 top), .s (.int .i64 sm), .s (.int .i64 i)], [.lst false tt0 [.int .i64] g, .cells tt1 [.s (.int .i64 m), .sub 2000 4 0 n], .lst true tt2 [.int .i64, .int .i64, .int .i64, .int .i64] l] =>
    if tt0 = 3 then if tt1 = 108 then if tt2 = 39 then some (⟨g, kg⟩, ⟨top, sm, i, m, n, l⟩) else none else none else none
  | _, _ => none
theorem decNo_ok (l : List V) (b : List Blk) (d : PNo × ANo) (h : decNo l b = some d) : l = vsNo d.1 d.2 ∧ b = bsNo d.1 d.2 := by
  unfold decNo at h
  split at h
  · obtain ⟨e0, h⟩ := ite_some0 h
    obtain ⟨e1, h⟩ := ite_some0 h
    obtain ⟨e2, h⟩ := ite_some0 h
    subst e0 e1 e2
    cases h
    exact ⟨rfl, rfl⟩
  · cases h
noncomputable def rgNo : Nat := (firstReg lpNo).getD 0
theorem rgNo_is : firstReg lpNo = some rgNo := by kernel_rfl
theorem noLoops1 : loopsIn lpNo = [lpNj] := by kernel_rfl
theorem noIn : LoopsOkS JL (byReg [(rgNj, famNj)]) lpNo := lps_in noLoops1 rgNj_is lpNj_ok
def noW (g : List Int) (i : Int) : Int := IntKind.wrap .i64 (Int.tmod (IntKind.wrap .u64 (gI g i)) 13)
def noX (g : List Int) (i : Int) : Int := IntKind.wrap .i64 (Int.tmod (IntKind.wrap .u64 (Int.tdiv (IntKind.wrap .u64 (gI g i)) 13)) 13)
def noL (p : PNo) (a : ANo) : List R4 := scaleL a.m a.l (noW p.g a.i) a.i
def noM (p : PNo) (a : ANo) : Int := scaleM a.m a.l (noW p.g a.i)
def noS (p : PNo) (a : ANo) : Int := IntKind.wrap .i64 (a.sm + if 0 > IntKind.wrap .i64 (noW p.g a.i - cnt a.l) then 0 else IntKind.wrap .i64 (noW p.g a.i - cnt a.l))
def noC (p : PNo) (a : ANo) : (R4 × Int) × List R4 := craP (noX p.g a.i) (noL p a)
def noP (p : PNo) (a : ANo) : PNj := ⟨p.g, p.kg, a.top, a.sm, a.i, cnt a.l, noW p.g a.i, (noL p a).length, noM p a, (noL p a).length, noL p a, noL p a⟩
def noZ (p : PNo) (a : ANo) : Int := IntKind.wrap .i64 (((noL p a).length : Int) - 1)
def noT (p : PNo) (a : ANo) : Bool → Int
  | true => if (g4 (noL p a) (noZ p a)).1 > a.top then (g4 (noL p a) (noZ p a)).1 else a.top
  | false => a.top
def noA (p : PNo) (a : ANo) (e : Bool) : ANo := ⟨noT p a e, noS p a, IntKind.wrap .i64 (a.i + 1), noM p a, (noC p a).2.length, (noC p a).2⟩
def noG (p : PNo) (a : ANo) : Bool := bif decide (a.i < (p.kg : Int)) then decide (a.i < 30) else false
def noE (p : PNo) (a : ANo) : Bool := bif (noC p a).1.2 == 0 then bif decide ((noC p a).1.1.1 < 0) then true else decide (noS p a ≤ (noC p a).1.1.1) else false
theorem wayNo1 (p : PNo) (a : ANo) : T.path [true, true, true, true, false, true, false, false, true, true, true, true, true, true, true, false, false, true, false] (rdNo p a) = some ([(noG p a, true), (okN a.n a.l, true), (idR p.g p.kg a.i, true), (ldR p.g a.i, true), ((13 : Int) == 0, false), (okSc a.m a.n a.l, true), (outS (noW p.g a.i) a.i, false), ((0 : Int) != 0, false), (okN (noL p a).length (noL p a), true), (invC okNj (noP p a) ⟨0⟩, true),
    (decide (0 < ((noL p a).length : Int)), true), (idR (noL p a) (noL p a).length (noZ p a), true), (ldR (noL p a) (noZ p a), true), (idR p.g p.kg a.i, true), (ldR p.g a.i, true), ((13 : Int) == 0, false), ((13 : Int) == 0, false), (okN (noL p a).length (noL p a), true), (noE p a, false)], (.normal, FNo p (noA p a true))) := by kernel_rfl
theorem wayNo0 (p : PNo) (a : ANo) : T.path [true, true, true, true, false, true, false, false, true, true, false, true, true, false, false, true, false] (rdNo p a) = some ([(noG p a, true), (okN a.n a.l, true), (idR p.g p.kg a.i, true), (ldR p.g a.i, true), ((13 : Int) == 0, false), (okSc a.m a.n a.l, true), (outS (noW p.g a.i) a.i, false), ((0 : Int) != 0, false), (okN (noL p a).length (noL p a), true), (invC okNj (noP p a) ⟨0⟩, true),
    (decide (0 < ((noL p a).length : Int)), false), (idR p.g p.kg a.i, true), (ldR p.g a.i, true), ((13 : Int) == 0, false), ((13 : Int) == 0, false), (okN (noL p a).length (noL p a), true), (noE p a, false)], (.normal, FNo p (noA p a false))) := by kernel_rfl
theorem wayNox (p : PNo) (a : ANo) : T.path [false] (rdNo p a) = some ([(noG p a, false)], (.exit 0, FNo p a)) := by kernel_rfl
def okNo (p : PNo) (a : ANo) : Prop := p.kg = p.g.length ∧ 0 ≤ a.i ∧ a.i ≤ 30 ∧ -1 ≤ a.top ∧ a.top < a.m ∧ a.sm = a.m ∧ 0 ≤ a.m ∧ a.m ≤ 13 * a.i ∧ a.n = a.l.length ∧ a.l.length ≤ 13 ∧ fresh1 a.l ∧ ∀ x ∈ a.l, 0 ≤ x.1 ∧ x.1 < a.m
def goNo (p : PNo) (a : ANo) : Bool := noG p a
def muNo (p : PNo) (a : ANo) : Nat := (30 - a.i).toNat
theorem stepNo (p : PNo) (a : ANo) (h : okNo p a) (hg : goNo p a = true) : ∃ b, stepC okNo rdNo FNo muNo p a b := by
  obtain ⟨h1, h2, h3, h4, h5, h6, h7, h8, h9, h10, h11, h12⟩ := id h
  have hg0 : (decide (a.i < (p.kg : Int)) && decide (a.i < 30)) = true := by rw [← cond_and]; exact hg
  simp only [Bool.and_eq_true, decide_eq_true_eq] at hg0
  obtain ⟨hi, hi30⟩ := hg0
  have hw : IntKind.wrap .i64 (a.i + 1) = a.i + 1 := wrap64_in (by omega) (by omega)
  obtain ⟨x1, x2⟩ := idR_is (g := p.g) (k := p.kg) (i := a.i) h1 h2 hi
  have hN : 0 ≤ noW p.g a.i ∧ noW p.g a.i < 13 := by unfold noW; rw [modU (by omega) (by omega)]; exact modU_range _ (by omega)
  have hcnt := fresh1_cnt h11
  -- the pods behind Scale
  have hz : IntKind.wrap .i64 (noW p.g a.i - cnt a.l) = noW p.g a.i - a.l.length := by rw [hcnt]; exact wrap64_in (by omega) (by omega)
  have hM : noM p a = a.m + (noW p.g a.i - a.l.length).toNat := by unfold noM scaleM; rw [hcnt]
  have hS : noS p a = noM p a := by
    unfold noS
    rw [hz, hM, h6]
    split
    · rw [wrap64_in (by omega) (by omega)]; omega
    · rw [wrap64_in (by omega) (by omega)]; omega
  have hLe : noL p a = disN a.i ((a.l.length : Int) - noW p.g a.i).toNat (a.l ++ newP a.i (noW p.g a.i - a.l.length).toNat a.m) := by unfold noL scaleL; rw [hcnt]
  have hfa : fresh1 (a.l ++ newP a.i (noW p.g a.i - a.l.length).toNat a.m) := by
    intro x hx
    rcases List.mem_append.1 hx with hx | hx
    · exact h11 x hx
    · exact (newP_mem _ hx).2.2
  obtain ⟨d1, d2⟩ := disN_fresh (now := a.i) ((a.l.length : Int) - noW p.g a.i).toNat hfa
  rw [← hLe] at d1 d2
  have hlen : ((noL p a).length : Int) = noW p.g a.i := by
    rw [d1, List.length_append, newP_len]; omega
  have hids : ∀ x ∈ noL p a, 0 ≤ x.1 ∧ x.1 < noM p a := by
    intro x hx
    rcases List.mem_append.1 (d2 x hx) with hx | hx
    · have := h12 x hx; omega
    · have := newP_mem _ hx; omega
  have hfL : fresh1 (noL p a) := fun x hx => hfa x (d2 x hx)
  have oL : okN (noL p a).length (noL p a) = true := okN_of (by omega)
  have oN : okN a.n a.l = true := decide_eq_true ⟨h9, by omega⟩
  have oS : okSc a.m a.n a.l = true := by
    unfold okSc; rw [oN, decide_eq_true (show a.l.length ≤ 10000 ∧ 0 ≤ a.m ∧ a.m ≤ 1000000000 by omega)]; rfl
  have oO : outS (noW p.g a.i) a.i = false := by
    unfold outS
    rw [decide_eq_false (show ¬ noW p.g a.i < 0 by omega), decide_eq_false (show ¬ 100 < noW p.g a.i by omega), decide_eq_false (show ¬ a.i < 0 by omega), decide_eq_false (show ¬ 1099511627776 < a.i by omega)]; rfl
  have oJ : okNj (noP p a) ⟨0⟩ := by
    refine ⟨rfl, by show (noL p a).length ≤ 10000; omega, Int.le_refl _, by show (0 : Int) ≤ ((noL p a).length : Int); omega, ?_⟩
    show ((cnt a.l : Nat) : Int) < noW p.g a.i → ∀ j : Nat, ((cnt a.l : Nat) : Int) ≤ (j : Int) → ∀ x, (noL p a)[j]? = some x → a.top < x.1
    rw [hcnt]
    intro hlt j hj x hx
    have hdn : ((a.l.length : Int) - noW p.g a.i).toNat = 0 := by omega
    rw [hLe, hdn] at hx
    have hx' : (a.l ++ newP a.i (noW p.g a.i - a.l.length).toNat a.m)[j]? = some x := hx
    rw [List.getElem?_append_right (by omega)] at hx'
    have := newP_mem _ (List.mem_of_getElem? hx')
    omega
  have hC : (noC p a).2.length ≤ 13 ∧ (∀ x ∈ (noC p a).2, x ∈ noL p a) ∧ noE p a = false := by
    unfold noE noC craP
    cases hb : (decide (noX p.g a.i < 0) || decide (((noL p a).length : Int) ≤ noX p.g a.i))
    · simp only [Bool.or_eq_false_iff, decide_eq_false_iff_not] at hb
      have hj : (noX p.g a.i).toNat < (noL p a).length := by omega
      have hm := hids _ (List.getElem_mem hj)
      rw [g4_at hj]
      refine ⟨?_, fun x hx => (List.eraseIdx_sublist _ _).subset hx, ?_⟩
      · show ((noL p a).eraseIdx _).length ≤ 13
        rw [List.length_eraseIdx]; split <;> omega
      · show (bif (0 : Int) == 0 then bif decide ((noL p a)[(noX p.g a.i).toNat].1 < 0) then true else decide (noS p a ≤ (noL p a)[(noX p.g a.i).toNat].1) else false) = false
        rw [decide_eq_false (show ¬ (noL p a)[(noX p.g a.i).toNat].1 < 0 by omega), decide_eq_false (show ¬ noS p a ≤ (noL p a)[(noX p.g a.i).toNat].1 by rw [hS]; omega)]; rfl
    · refine ⟨by show (noL p a).length ≤ 13; omega, fun x hx => hx, rfl⟩
  obtain ⟨c1, c2, c3⟩ := hC
  have mu : (30 - IntKind.wrap .i64 (a.i + 1)).toNat < (30 - a.i).toNat := by rw [hw]; omega
  have fin : ∀ e : Bool, -1 ≤ noT p a e → noT p a e < noM p a → okNo p (noA p a e) := fun e t1 t2 =>
    ⟨h1, by show 0 ≤ IntKind.wrap .i64 (a.i + 1); rw [hw]; omega, by show IntKind.wrap .i64 (a.i + 1) ≤ 30; rw [hw]; omega, t1, t2, hS, by show 0 ≤ noM p a; omega, by show noM p a ≤ 13 * IntKind.wrap .i64 (a.i + 1); rw [hw]; omega, rfl, c1, fun x hx => hfL x (c2 x hx), fun x hx => hids x (c2 x hx)⟩
  by_cases hpos : 0 < (noL p a).length
  · have hz1 : noZ p a = ((noL p a).length : Int) - 1 := wrap64_in (by omega) (by omega)
    have hj : (noZ p a).toNat < (noL p a).length := by omega
    obtain ⟨y1, y2⟩ := idR_is (g := noL p a) (k := (noL p a).length) (i := noZ p a) rfl (by omega) (by omega)
    have hm := hids _ (List.getElem_mem hj)
    refine ⟨_, T.path_eval (wayNo1 p a) ⟨hg, oN, x1, x2, rfl, oS, oO, rfl, oL, invC_is oJ, decide_eq_true (by omega), y1, y2, x1, x2, rfl, rfl, oL, c3, trivial⟩, fin true ?_ ?_, mu⟩
    · unfold noT; rw [g4_at hj]; split <;> omega
    · unfold noT; rw [g4_at hj]; split <;> omega
  · refine ⟨_, T.path_eval (wayNo0 p a) ⟨hg, oN, x1, x2, rfl, oS, oO, rfl, oL, invC_is oJ, decide_eq_false (by omega), x1, x2, rfl, rfl, oL, c3, trivial⟩, fin false h4 ?_, mu⟩
    show a.top < noM p a; omega
theorem exNo (p : PNo) (a : ANo) (h : okNo p a) (hg : goNo p a = false) : (rdNo p a).eval = some (.exit 0, FNo p a) := T.path_eval (wayNox p a) ⟨hg, trivial⟩
noncomputable def famNo : LSpec := famC [0,3,4,5,6] SNo 2000 2001 132 decNo okNo goNo rdNo FNo muNo (.exit 0)
theorem lpNo_gen {c : Code} (hl : LoopsOkS JL (byReg [(rgNj, famNj)]) c) (hrun : ∀ p a, T.anon (roundN JL (byReg [(rgNj, famNj)]) c [0,3,4,5,6] SNo 2000 2001 (mkSt [0,3,4,5,6] (keysR SNo) 2001 132 (vsNo p a) (bsNo p a))) = rdNo p a) : LoopOk JL c famNo := famC_ok (vs := vsNo) (bs := bsNo) JL_ok mixed hl.ok decNo_ok (by simp) (fun _ _ => rfl) hrun stepNo exNo
theorem lpNo_ok : LoopOk JL lpNo famNo := lpNo_gen noIn (fun _ _ => rfl)
noncomputable def eNo (l : List Int) : ANo := endW (nxtC okNo goNo rdNo FNo muNo ⟨l, l.length⟩) ⟨-1, 0, 0, 0, 0, []⟩
theorem wayNoA (l : List Int) : T.path [true] (execS JL (byReg [(rgNo, famNo)]) 9 [.orow 3 [.int .i64] l]) = some ([(invC okNo ⟨l, l.length⟩ ⟨-1, 0, 0, 0, 0, []⟩, true)], .s (.bool (decide ((eNo l).top < (eNo l).sm)))) := by kernel_rfl
theorem lifeNumbers_walk (l : List Int) (_ : l.length ≤ maxLen) (_ : ∀ x ∈ l, (Lit.int .i64 x).wf = true) (x : Value) (w : World) (hx : holdsP 0 w (.orow 3 [.int .i64] l) x) :
    Calls Try.prog 9 #[x] w fun e w' => e = .returned (.bool true) ∧ Below w.heap.size w w' := by
  refine Law.law_rows (args := [.orow 3 [.int .i64] l]) (xs := [x]) (execS_loops (Λ := byReg [(rgNo, famNo)]) JL_ok mixed Try.func9 (by kernel_rfl) (by kernel_rfl) (one_lp (c := lpNo) (by kernel_rfl) rgNo_is lpNo_ok)) rfl (.inr ?_) w ⟨hx, trivial⟩
  have h0 : okNo ⟨l, l.length⟩ ⟨-1, 0, 0, 0, 0, []⟩ := ⟨rfl, Int.le_refl _, by show (0 : Int) ≤ 30; omega, Int.le_refl _, by show (-1 : Int) < 0; omega, rfl, Int.le_refl _, Int.le_refl _, rfl, by show (0 : Nat) ≤ 13; omega, (by intro x hx; cases hx), (by intro x hx; cases hx)⟩
  obtain ⟨k1, _⟩ := endC stepNo h0
  obtain ⟨_, _, _, _, q5, q6, _⟩ := k1
  refine (T.path_eval (wayNoA l) ⟨invC_is h0, trivial⟩).trans ?_
  have q5' : (eNo l).top < (eNo l).m := q5
  have q6' : (eNo l).sm = (eNo l).m := q6
  rw [q6', decide_eq_true q5']
end Go.Proofs.Ytfnadebkobfemaa.Lif
