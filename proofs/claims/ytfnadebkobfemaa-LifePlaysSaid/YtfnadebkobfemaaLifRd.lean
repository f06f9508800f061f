/- Layer 21: the document's own pods: contracts without loops of their own. -/
import Derived.Test.YtfnadebkobfemaaLifRc
namespace Go.Proofs.Ytfnadebkobfemaa.Lif
open Go.Eng Go.RowKit
set_option linter.unusedVariables false
set_option linter.unusedSimpArgs false
/-! ### goer -/
noncomputable def goeE : Eng.Obj := execO J0 (byReg [(rgRg, famRg), (rgRh, famRh)]) 77
theorem goeE_ok : ObjOk Try.prog 77 goeE := execO_loops J0_ok mixed Try.func77 (by kernel_rfl) (by kernel_rfl) (two_lp (c := lpRg) (c' := lpRh) (by kernel_rfl) rgRg_is rgRh_is (by kernel_rfl) lpRg_ok lpRh_ok)
noncomputable def eRg (p : PRg) : ARg := endW (nxtC okRg goRg rdRg FRg muRg p) ⟨-1, 0⟩
noncomputable def eRh (p : PRh) (b : Int) : ARh := endW (nxtC okRh goRh rdRh FRh muRh p) ⟨b, 0⟩
theorem wayGo1 (m : Int) (n : Nat) (l : List R4) : T.path [true, true] (goeE [.ptr 0 0] (hR m n l)) = some ([(invC okRg ⟨m, n, l⟩ ⟨-1, 0⟩, true), (decide (0 ≤ (eRg ⟨m, n, l⟩).b), true)], (iv (eRg ⟨m, n, l⟩).b, hR m n l)) := by kernel_rfl
theorem wayGo2 (m : Int) (n : Nat) (l : List R4) : T.path [true, false, true] (goeE [.ptr 0 0] (hR m n l)) = some ([(invC okRg ⟨m, n, l⟩ ⟨-1, 0⟩, true), (decide (0 ≤ (eRg ⟨m, n, l⟩).b), false), (invC okRh ⟨m, n, l⟩ ⟨(eRg ⟨m, n, l⟩).b, 0⟩, true)], (iv (eRh ⟨m, n, l⟩ (eRg ⟨m, n, l⟩).b).b, hR m n l)) := by kernel_rfl
def goeC (args : List V) (h : Heap) : T (V × Heap) := match args with
  | [.ptr 0 0] => opt (dR h) fun x => .ite none (okN x.2.1 x.2.2) (.ret (iv (oV (joinG (g1O x.2.2) (g2O x.2.2))), hR x.1 x.2.1 x.2.2)) .fail
  | _ => .fail
theorem goeC_ok : ObjOk Try.prog 77 goeC := goeE_ok.of_eval fun args h v hv => by
  unfold goeC at hv
  split at hv
  · obtain ⟨⟨m, n, l⟩, hd, hv⟩ := opt_eval hv
    have := dR_ok hd
    subst this
    obtain ⟨hc, hv⟩ := ite_some hv
    have hc : okN n l = true := hc
    obtain ⟨h1, h2⟩ := okN_is hc
    simp only [T.eval, Option.some.injEq] at hv
    subst hv
    have h0 : okRg ⟨m, n, l⟩ ⟨-1, 0⟩ := ⟨h1, h2, Int.le_refl _, by show (0 : Int) ≤ n; omega, rfl⟩
    obtain ⟨k1, k2⟩ := endC stepRg h0
    obtain ⟨_, _, _, q2, q3⟩ := k1
    have q1' : ¬ (eRg ⟨m, n, l⟩).i < (n : Int) := of_decide_eq_false k2
    have q3' : (eRg ⟨m, n, l⟩).b = oV (g1O (l.take (eRg ⟨m, n, l⟩).i.toNat)) := q3
    rw [List.take_of_length_le (by omega)] at q3'
    cases ho : g1O l with
    | some r =>
      rw [ho] at q3'
      have hp : 0 ≤ (eRg ⟨m, n, l⟩).b := by rw [q3']; show (0 : Int) ≤ (r.1 : Int); omega
      refine (T.path_eval (wayGo1 m n l) ⟨invC_is h0, decide_eq_true hp, trivial⟩).trans ?_
      rw [q3']; simp only [joinG, ho]
    | none =>
      rw [ho] at q3'
      have hp : ¬ 0 ≤ (eRg ⟨m, n, l⟩).b := by rw [q3']; show ¬ (0 : Int) ≤ -1; omega
      have h0b : okRh ⟨m, n, l⟩ ⟨(eRg ⟨m, n, l⟩).b, 0⟩ := ⟨h1, h2, Int.le_refl _, by show (0 : Int) ≤ n; omega, q3'⟩
      obtain ⟨k1, k2⟩ := endC stepRh h0b
      obtain ⟨_, _, _, r2, r3⟩ := k1
      have r1' : ¬ (eRh ⟨m, n, l⟩ (eRg ⟨m, n, l⟩).b).i < (n : Int) := of_decide_eq_false k2
      have r3' : (eRh ⟨m, n, l⟩ (eRg ⟨m, n, l⟩).b).b = oV (g2O (l.take (eRh ⟨m, n, l⟩ (eRg ⟨m, n, l⟩).b).i.toNat)) := r3
      rw [List.take_of_length_le (by omega)] at r3'
      refine (T.path_eval (wayGo2 m n l) ⟨invC_is h0, decide_eq_false hp, invC_is h0b, trivial⟩).trans ?_
      rw [r3']; simp only [joinG, ho]
  · cases hv
/-! ### Ready -/
noncomputable def rdE : Eng.Obj := execO J0 (byReg [(rgRd, famRd)]) 41
theorem rdE_ok : ObjOk Try.prog 41 rdE := execO_loops J0_ok mixed Try.func41 (by kernel_rfl) (by kernel_rfl) (one_lp (c := lpRd) (by kernel_rfl) rgRd_is lpRd_ok)
noncomputable def eRd (p : PRd) : ARd := endW (nxtC okRd goRd rdRd FRd muRd p) ⟨[], 0, 0⟩
theorem wayRdE (m : Int) (n : Nat) (l : List R4) : T.path [true] (rdE [.ptr 0 0] (hR m n l)) = some ([(invC okRd ⟨m, n, l⟩ ⟨[], 0, 0⟩, true)], (.sub 1000 1 0 (eRd ⟨m, n, l⟩).j, hR m n l ++ [(1000, intB (eRd ⟨m, n, l⟩).W)])) := by kernel_rfl
def rdC (args : List V) (h : Heap) : T (V × Heap) := match args with
  | [.ptr 0 0] => opt (dR h) fun x => .ite none (okN x.2.1 x.2.2) (.ret (.sub 1000 1 0 (rdy x.2.2).length, hR x.1 x.2.1 x.2.2 ++ [(1000, intB (rdy x.2.2))])) .fail
  | _ => .fail
theorem rdC_ok : ObjOk Try.prog 41 rdC := rdE_ok.of_eval fun args h v hv => by
  unfold rdC at hv
  split at hv
  · obtain ⟨⟨m, n, l⟩, hd, hv⟩ := opt_eval hv
    have := dR_ok hd
    subst this
    obtain ⟨hc, hv⟩ := ite_some hv
    have hc : okN n l = true := hc
    obtain ⟨h1, h2⟩ := okN_is hc
    simp only [T.eval, Option.some.injEq] at hv
    subst hv
    have h0 : okRd ⟨m, n, l⟩ ⟨[], 0, 0⟩ := ⟨h1, h2, Int.le_refl _, by show (0 : Int) ≤ n; omega, rfl, rfl⟩
    obtain ⟨k1, k2⟩ := endC stepRd h0
    obtain ⟨_, _, _, q2, q3, q4⟩ := k1
    have q1' : ¬ (eRd ⟨m, n, l⟩).i < (n : Int) := of_decide_eq_false k2
    have q4' : (eRd ⟨m, n, l⟩).W = rdy (l.take (eRd ⟨m, n, l⟩).i.toNat) := q4
    have q3' : (eRd ⟨m, n, l⟩).j = (eRd ⟨m, n, l⟩).W.length := q3
    rw [List.take_of_length_le (by omega)] at q4'
    refine (T.path_eval (wayRdE m n l) ⟨invC_is h0, trivial⟩).trans ?_
    rw [q3', q4']
  · cases hv
/-! ### at -/
def oF : Option Nat → Int
  | none => -1
  | some k => k
noncomputable def atE : Eng.Obj := execO J0 (byReg [(rgRt, famRt)]) 79
theorem atE_ok : ObjOk Try.prog 79 atE := execO_loops J0_ok mixed Try.func79 (by kernel_rfl) (by kernel_rfl) (one_lp (c := lpRt) (by kernel_rfl) rgRt_is lpRt_ok)
theorem wayAt1 (m id : Int) (n : Nat) (l : List R4) : T.path [true, true] (atE [.ptr 0 0, iv id] (hR m n l)) = some ([(invC okRt ⟨m, n, l, id⟩ ⟨0⟩, true), ((findI id l).isSome, true)], (iv ((findI id l).getD 0 : Nat), hR m n l)) := by kernel_rfl
theorem wayAt0 (m id : Int) (n : Nat) (l : List R4) : T.path [true, false] (atE [.ptr 0 0, iv id] (hR m n l)) = some ([(invC okRt ⟨m, n, l, id⟩ ⟨0⟩, true), ((findI id l).isSome, false)], (iv (-1), hR m n l)) := by kernel_rfl
def atC (args : List V) (h : Heap) : T (V × Heap) := match args with
  | [.ptr 0 0, .s (.int .i64 id)] => opt (dR h) fun x => .ite none (okN x.2.1 x.2.2) (.ret (iv (oF (findI id x.2.2)), hR x.1 x.2.1 x.2.2)) .fail
  | _ => .fail
theorem atC_ok : ObjOk Try.prog 79 atC := atE_ok.of_eval fun args h v hv => by
  unfold atC at hv
  split at hv
  · rename_i id
    obtain ⟨⟨m, n, l⟩, hd, hv⟩ := opt_eval hv
    have := dR_ok hd
    subst this
    obtain ⟨hc, hv⟩ := ite_some hv
    obtain ⟨h1, h2⟩ := okN_is (n := n) (l := l) hc
    have h0 : okRt ⟨m, n, l, id⟩ ⟨0⟩ := ⟨h1, h2, Int.le_refl _, by show (0 : Int) ≤ n; omega, rfl⟩
    simp only [T.eval, Option.some.injEq] at hv
    subst hv
    cases hf : findI id l with
    | none => exact T.path_eval (wayAt0 m id n l) ⟨invC_is h0, by rw [hf]; rfl, trivial⟩
    | some k =>
      refine (T.path_eval (wayAt1 m id n l) ⟨invC_is h0, by rw [hf]; rfl, trivial⟩).trans ?_
      rw [hf]; rfl
  · cases hv
/-! ### Ripe -/
noncomputable def rrE : Eng.Obj := execO J0 (byReg [(rgRr, famRr)]) 34
theorem rrE_ok : ObjOk Try.prog 34 rrE := execO_loops J0_ok mixed Try.func34 (by kernel_rfl) (by kernel_rfl) (one_lp (c := lpRr) (by kernel_rfl) rgRr_is lpRr_ok)
noncomputable def eRr (p : PRr) : ARr := endW (nxtC okRr goRr rdRr FRr muRr p) ⟨p.l0, 0⟩
theorem wayRrE (m now a : Int) (n : Nat) (l : List R4) : T.path [true] (rrE [.ptr 0 0, iv now, iv a] (hR m n l)) = some ([(invC okRr ⟨m, n, now, a, l⟩ ⟨l, 0⟩, true)], (.tup [], hR m n (eRr ⟨m, n, now, a, l⟩).l)) := by kernel_rfl
def rrC (args : List V) (h : Heap) : T (V × Heap) := match args with
  | [.ptr 0 0, .s (.int .i64 now), .s (.int .i64 a)] => opt (dR h) fun x => .ite none (okN x.2.1 x.2.2 && okTb x.2.2) (.ret (.tup [], hR x.1 x.2.1 (ripeL now a x.2.2))) .fail
  | _ => .fail
theorem rrC_ok : ObjOk Try.prog 34 rrC := rrE_ok.of_eval fun args h v hv => by
  unfold rrC at hv
  split at hv
  · rename_i now a
    obtain ⟨⟨m, n, l⟩, hd, hv⟩ := opt_eval hv
    have := dR_ok hd
    subst this
    obtain ⟨hc, hv⟩ := ite_some hv
    obtain ⟨hc1, hc2⟩ := (Bool.and_eq_true _ _).mp hc
    obtain ⟨h1, h2⟩ := okN_is (n := n) (l := l) hc1
    have ht := okTb_is hc2
    simp only [T.eval, Option.some.injEq] at hv
    subst hv
    have h0 : okRr ⟨m, n, now, a, l⟩ ⟨l, 0⟩ := ⟨h1, h2, ht, Int.le_refl _, by show (0 : Int) ≤ n; omega, .inr rfl, by show l = ripeTo now a l 0; simp [ripeTo]⟩
    obtain ⟨k1, k2⟩ := endC stepRr h0
    refine (T.path_eval (wayRrE m now a n l) ⟨invC_is h0, trivial⟩).trans ?_
    obtain ⟨_, _, _, q4, q5, q6, q7⟩ := k1
    have q7' : (eRr ⟨m, n, now, a, l⟩).l = ripeTo now a l (eRr ⟨m, n, now, a, l⟩).i.toNat := q7
    have q6' : 0 ≤ a ∧ a ≤ 100 ∨ (eRr ⟨m, n, now, a, l⟩).i = 0 := q6
    have k2' : (bif bif decide ((eRr ⟨m, n, now, a, l⟩).i < (n : Int)) then decide (0 ≤ a) else false then decide (a ≤ 100) else false) = false := k2
    rw [cond_and, cond_and] at k2'
    have e : (eRr ⟨m, n, now, a, l⟩).l = ripeL now a l := by
      rw [q7']
      unfold ripeL
      by_cases hr : 0 ≤ a ∧ a ≤ 100
      · rw [decide_eq_true hr.1, decide_eq_true hr.2, Bool.and_true, Bool.and_true] at k2'
        have := of_decide_eq_false k2'
        rw [decide_eq_false (show ¬ a < 0 by omega), decide_eq_false (show ¬ 100 < a by omega)]
        unfold ripeTo
        rw [List.take_of_length_le (by omega), List.drop_of_length_le (by omega), List.append_nil]; rfl
      · have hi : (eRr ⟨m, n, now, a, l⟩).i = 0 := q6'.resolve_left hr
        rw [hi]
        have : (decide (a < 0) || decide (100 < a)) = true := by
          simp only [Bool.or_eq_true, decide_eq_true_eq]; omega
        rw [this]
        simp [ripeTo]
    rw [e]
  · cases hv
/-! ### Enter, Leave, Crash, out -/
noncomputable def ouE : Eng.Obj := execO J0 noLoops 78
theorem ouE_ok : ObjOk Try.prog 78 ouE := execO_plain J0_ok mixed Try.func78 (by kernel_rfl) (by kernel_rfl)
end Go.Proofs.Ytfnadebkobfemaa.Lif
