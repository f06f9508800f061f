/- Layer 21: Count, Ready, Ripe, find, remove, All, before: told plainly. The loop of spare. -/
import Derived.Test.YtfnadebkobfemaaLifV
namespace Go.Proofs.Ytfnadebkobfemaa.Lif
open Go.Eng Go.RowKit
set_option linter.unusedVariables false
set_option linter.unusedSimpArgs false
def dH : Heap → Option (Int × Nat × List R4)
  | [(0, .cells t0 [.s (.int .i64 m), .sub 1 4 0 n]), (1, .lst true t1 [.int .i64, .int .i64, .int .i64, .int .i64] l)] => if t0 = 108 then if t1 = 39 then some (m, n, l) else none else none
  | _ => none
theorem dH_ok {h : Heap} {x : Int × Nat × List R4} (e : dH h = some x) : h = hL x.1 x.2.1 x.2.2 := by
  unfold dH at e
  split at e
  · obtain ⟨e0, e⟩ := ite_some0 e
    obtain ⟨e1, e⟩ := ite_some0 e
    subst e0 e1
    cases e
    rfl
  · cases e
def okN (n : Nat) (l : List R4) : Bool := decide (n = l.length ∧ l.length ≤ 100000)
theorem okN_is {n : Nat} {l : List R4} (h : okN n l = true) : n = l.length ∧ l.length ≤ 100000 := of_decide_eq_true h
theorem okN_of {l : List R4} (h : l.length ≤ 100000) : okN l.length l = true := decide_eq_true ⟨rfl, h⟩
/-! ### Count -/
noncomputable def cntE : Eng.Obj := execO J0 (byReg [(rgCn, famCn)]) 30
theorem cntE_ok : ObjOk Try.prog 30 cntE := execO_loops J0_ok mixed Try.func30 (by kernel_rfl) (by kernel_rfl) (one_lp (c := lpCn) (by kernel_rfl) rgCn_is lpCn_ok)
noncomputable def eCn (p : PCn) : ACn := endW (nxtC okCn goCn rdCn FCn muCn p) ⟨0, 0⟩
theorem wayCE (m : Int) (n : Nat) (l : List R4) : T.path [true] (cntE [.ptr 0 0] (hL m n l)) = some ([(invC okCn ⟨m, n, l, n, n⟩ ⟨0, 0⟩, true)], (iv (eCn ⟨m, n, l, n, n⟩).c, hL m n l)) := by kernel_rfl
theorem cntE_run {m : Int} {n : Nat} {l : List R4} (h : okN n l = true) : (cntE [.ptr 0 0] (hL m n l)).eval = some (iv (cnt l), hL m n l) := by
  obtain ⟨h1, h2⟩ := okN_is h
  have h0 : okCn ⟨m, n, l, n, n⟩ ⟨0, 0⟩ := ⟨h1, by show (n : Int) = (l.length : Int); omega, h2, Int.le_refl _, by show (0 : Int) ≤ n; omega, rfl⟩
  obtain ⟨k1, k2⟩ := endC stepCn h0
  refine (T.path_eval (wayCE m n l) ⟨invC_is h0, trivial⟩).trans ?_
  obtain ⟨_, _, _, _, q2, q3⟩ := k1
  have q1 := of_decide_eq_false k2
  have e : l.take (eCn ⟨m, n, l, n, n⟩).i.toNat = l := List.take_of_length_le (by
    have q1' : ¬ (eCn ⟨m, n, l, n, n⟩).i < (n : Int) := q1
    omega)
  have q3' : (eCn ⟨m, n, l, n, n⟩).c = cnt (l.take (eCn ⟨m, n, l, n, n⟩).i.toNat) := q3
  rw [q3', e]
def cntL (args : List V) (h : Heap) : T (V × Heap) := match args with
  | [.ptr 0 0] => opt (dH h) fun x => .ite none (okN x.2.1 x.2.2) (.ret (iv (cnt x.2.2), hL x.1 x.2.1 x.2.2)) .fail
  | _ => .fail
theorem cntL_ok : ObjOk Try.prog 30 cntL := cntE_ok.of_eval fun args h v hv => by
  unfold cntL at hv
  split at hv
  · obtain ⟨⟨m, n, l⟩, hd, hv⟩ := opt_eval hv
    have := dH_ok hd
    subst this
    obtain ⟨hc, hv⟩ := ite_some hv
    simp only [T.eval, Option.some.injEq] at hv
    subst hv
    exact cntE_run hc
  · cases hv
/-! ### Ready -/
noncomputable def rdyE : Eng.Obj := execO J0 (byReg [(rgRy, famRy)]) 40
theorem rdyE_ok : ObjOk Try.prog 40 rdyE := execO_loops J0_ok mixed Try.func40 (by kernel_rfl) (by kernel_rfl) (one_lp (c := lpRy) (by kernel_rfl) rgRy_is lpRy_ok)
noncomputable def eRy (p : PRy) : ARy := endW (nxtC okRy goRy rdRy FRy muRy p) ⟨[], 0, 0⟩
def intB (l : List Int) : Blk := .lst true 3 [.int .i64] l
theorem wayRE (m : Int) (n : Nat) (l : List R4) : T.path [true] (rdyE [.ptr 0 0] (hL m n l)) = some ([(invC okRy ⟨m, n, l, n, n⟩ ⟨[], 0, 0⟩, true)], (.sub 1000 1 0 (eRy ⟨m, n, l, n, n⟩).j, hL m n l ++ [(1000, intB (eRy ⟨m, n, l, n, n⟩).W)])) := by kernel_rfl
theorem rdyE_run {m : Int} {n : Nat} {l : List R4} (h : okN n l = true) : (rdyE [.ptr 0 0] (hL m n l)).eval = some (.sub 1000 1 0 (rdy l).length, hL m n l ++ [(1000, intB (rdy l))]) := by
  obtain ⟨h1, h2⟩ := okN_is h
  have h0 : okRy ⟨m, n, l, n, n⟩ ⟨[], 0, 0⟩ := ⟨h1, by show (n : Int) = (l.length : Int); omega, h2, Int.le_refl _, by show (0 : Int) ≤ n; omega, rfl, rfl⟩
  obtain ⟨k1, k2⟩ := endC stepRy h0
  refine (T.path_eval (wayRE m n l) ⟨invC_is h0, trivial⟩).trans ?_
  obtain ⟨_, _, _, _, q2, q3, q4⟩ := k1
  have q1 := of_decide_eq_false k2
  have e : l.take (eRy ⟨m, n, l, n, n⟩).i.toNat = l := List.take_of_length_le (by
    have q1' : ¬ (eRy ⟨m, n, l, n, n⟩).i < (n : Int) := q1
    omega)
  have q4' : (eRy ⟨m, n, l, n, n⟩).W = rdy (l.take (eRy ⟨m, n, l, n, n⟩).i.toNat) := q4
  have q3' : (eRy ⟨m, n, l, n, n⟩).j = (eRy ⟨m, n, l, n, n⟩).W.length := q3
  rw [q3', q4', e]
def rdyL (args : List V) (h : Heap) : T (V × Heap) := match args with
  | [.ptr 0 0] => opt (dH h) fun x => .ite none (okN x.2.1 x.2.2) (.ret (.sub 1000 1 0 (rdy x.2.2).length, hL x.1 x.2.1 x.2.2 ++ [(1000, intB (rdy x.2.2))])) .fail
  | _ => .fail
theorem rdyL_ok : ObjOk Try.prog 40 rdyL := rdyE_ok.of_eval fun args h v hv => by
  unfold rdyL at hv
  split at hv
  · obtain ⟨⟨m, n, l⟩, hd, hv⟩ := opt_eval hv
    have := dH_ok hd
    subst this
    obtain ⟨hc, hv⟩ := ite_some hv
    simp only [T.eval, Option.some.injEq] at hv
    subst hv
    exact rdyE_run hc
  · cases hv
/-! ### Ripe -/
noncomputable def ripE : Eng.Obj := execO J0 (byReg [(rgRi, famRi)]) 26
theorem ripE_ok : ObjOk Try.prog 26 ripE := execO_loops J0_ok mixed Try.func26 (by kernel_rfl) (by kernel_rfl) (one_lp (c := lpRi) (by kernel_rfl) rgRi_is lpRi_ok)
noncomputable def eRi (p : PRi) : ARi := endW (nxtC okRi goRi rdRi FRi muRi p) ⟨p.l0, 0⟩
def outA (a : Int) : Bool := bif decide (a < 0) then true else decide (100 < a)
theorem wayRiE (m now a : Int) (n : Nat) (l : List R4) : T.path [false, true] (ripE [.ptr 0 0, iv now, iv a] (hL m n l)) = some ([(outA a, false), (invC okRi ⟨m, n, n, n, now, a, l⟩ ⟨l, 0⟩, true)], (.tup [], hL m n (eRi ⟨m, n, n, n, now, a, l⟩).l)) := by kernel_rfl
theorem wayRiO (m now a : Int) (n : Nat) (l : List R4) : T.path [true] (ripE [.ptr 0 0, iv now, iv a] (hL m n l)) = some ([(outA a, true)], (.tup [], hL m n l)) := by kernel_rfl
def okTb (l : List R4) : Bool := l.all fun p => decide (0 ≤ p.2.2.2) && decide (p.2.2.2 ≤ 1099511627776)
theorem okTb_is {l : List R4} (h : okTb l = true) : okT l := fun p hp => by
  have := List.all_eq_true.1 h p hp
  simp only [Bool.and_eq_true, decide_eq_true_eq] at this
  exact this
theorem okTb_of {l : List R4} (h : okT l) : okTb l = true := List.all_eq_true.2 fun p hp => by
  have := h p hp
  simp only [Bool.and_eq_true, decide_eq_true_eq]
  exact this
theorem ripE_run {m now a : Int} {n : Nat} {l : List R4} (h : okN n l = true) (ht : okT l) : (ripE [.ptr 0 0, iv now, iv a] (hL m n l)).eval = some (.tup [], hL m n (ripeL now a l)) := by
  obtain ⟨h1, h2⟩ := okN_is h
  cases ho : outA a
  · have ha : 0 ≤ a ∧ a ≤ 100 := by
      unfold outA at ho
      cases q : decide (a < 0)
      · rw [q] at ho; have := of_decide_eq_false q; have := of_decide_eq_false ho; omega
      · rw [q] at ho; cases ho
    have h0 : okRi ⟨m, n, n, n, now, a, l⟩ ⟨l, 0⟩ := ⟨h1, by show (n : Int) = (l.length : Int); omega, h2, ht, ha.1, ha.2, Int.le_refl _, by show (0 : Int) ≤ n; omega, by show l = ripeTo now a l 0; simp [ripeTo]⟩
    obtain ⟨k1, k2⟩ := endC stepRi h0
    refine (T.path_eval (wayRiE m now a n l) ⟨ho, invC_is h0, trivial⟩).trans ?_
    obtain ⟨_, _, _, _, _, _, _, q2, q3⟩ := k1
    have q1 := of_decide_eq_false k2
    have e : (eRi ⟨m, n, n, n, now, a, l⟩).l = ripeL now a l := by
      have q1' : ¬ (eRi ⟨m, n, n, n, now, a, l⟩).i < (n : Int) := q1
      have q3' : (eRi ⟨m, n, n, n, now, a, l⟩).l = ripeTo now a l (eRi ⟨m, n, n, n, now, a, l⟩).i.toNat := q3
      rw [q3']
      unfold ripeTo ripeL
      rw [List.take_of_length_le (by omega), List.drop_of_length_le (by omega), List.append_nil, decide_eq_false (show ¬ a < 0 by omega), decide_eq_false (show ¬ 100 < a by omega)]; rfl
    rw [e]
  · refine (T.path_eval (wayRiO m now a n l) ⟨ho, trivial⟩).trans ?_
    have e : ripeL now a l = l := by
      unfold ripeL
      unfold outA at ho
      cases q : decide (a < 0)
      · rw [q] at ho; simp only [cond_false] at ho; rw [ho]; rfl
      · rfl
    rw [e]
def ripL (args : List V) (h : Heap) : T (V × Heap) := match args with
  | [.ptr 0 0, .s (.int .i64 now), .s (.int .i64 a)] => opt (dH h) fun x => .ite none (okN x.2.1 x.2.2 && okTb x.2.2) (.ret (.tup [], hL x.1 x.2.1 (ripeL now a x.2.2))) .fail
  | _ => .fail
theorem ripL_ok : ObjOk Try.prog 26 ripL := ripE_ok.of_eval fun args h v hv => by
  unfold ripL at hv
  split at hv
  · obtain ⟨⟨m, n, l⟩, hd, hv⟩ := opt_eval hv
    have := dH_ok hd
    subst this
    obtain ⟨hc, hv⟩ := ite_some hv
    obtain ⟨hc1, hc2⟩ := (Bool.and_eq_true _ _).mp hc
    simp only [T.eval, Option.some.injEq] at hv
    subst hv
    exact ripE_run hc1 (okTb_is hc2)
  · cases hv
/-! ### find -/
noncomputable def finE : Eng.Obj := execO J0 (byReg [(rgFi, famFi)]) 74
theorem finE_ok : ObjOk Try.prog 74 finE := execO_loops J0_ok mixed Try.func74 (by kernel_rfl) (by kernel_rfl) (one_lp (c := lpFi) (by kernel_rfl) rgFi_is lpFi_ok)
theorem wayFE1 (m id : Int) (n : Nat) (l : List R4) : T.path [true, true] (finE [.ptr 0 0, iv id] (hL m n l)) = some ([(invC okFi ⟨m, n, l, n, n, id⟩ ⟨0⟩, true), ((findI id l).isSome, true)], (spotV ((findI id l).getD 0 : Nat), hL m n l)) := by kernel_rfl
theorem wayFE0 (m id : Int) (n : Nat) (l : List R4) : T.path [true, false] (finE [.ptr 0 0, iv id] (hL m n l)) = some ([(invC okFi ⟨m, n, l, n, n, id⟩ ⟨0⟩, true), ((findI id l).isSome, false)], (noV, hL m n l)) := by kernel_rfl
def finT (r : V → T (V × Heap)) (o : Option Nat) : T (V × Heap) := .ite none o.isSome (r (spotV (o.getD 0 : Nat))) (r noV)
def finL (args : List V) (h : Heap) : T (V × Heap) := match args with
  | [.ptr 0 0, .s (.int .i64 id)] => opt (dH h) fun x => .ite none (okN x.2.1 x.2.2) (finT (fun v => .ret (v, hL x.1 x.2.1 x.2.2)) (findI id x.2.2)) .fail
  | _ => .fail
theorem finL_ok : ObjOk Try.prog 74 finL := finE_ok.of_eval fun args h v hv => by
  unfold finL at hv
  split at hv
  · rename_i id
    obtain ⟨⟨m, n, l⟩, hd, hv⟩ := opt_eval hv
    have := dH_ok hd
    subst this
    obtain ⟨hc, hv⟩ := ite_some hv
    obtain ⟨h1, h2⟩ := okN_is (n := n) (l := l) hc
    have h0 : okFi ⟨m, n, l, n, n, id⟩ ⟨0⟩ := ⟨h1, by show (n : Int) = (l.length : Int); omega, h2, Int.le_refl _, by show (0 : Int) ≤ n; omega, rfl⟩
    unfold finT at hv
    cases hf : (findI id l).isSome
    · simp only [hf, T.eval, cond_false, Option.some.injEq] at hv
      subst hv
      exact T.path_eval (wayFE0 m id n l) ⟨invC_is h0, hf, trivial⟩
    · simp only [hf, T.eval, cond_true, Option.some.injEq] at hv
      subst hv
      exact T.path_eval (wayFE1 m id n l) ⟨invC_is h0, hf, trivial⟩
  · cases hv
/-! ### before, remove, All -/
def befL : Eng.Spec
  | [.agg [.s (.int .i64 a1), .s (.int .i64 a2), .s (.int .i64 a3), .s (.int .i64 a4)], .agg [.s (.int .i64 b1), .s (.int .i64 b2), .s (.int .i64 b3), .s (.int .i64 b4)]] => .ret (.s (.bool (bef (a1, a2, a3, a4) (b1, b2, b3, b4))))
  | _ => .fail
def p4 (a : R4) : V := .agg [iv a.1, iv a.2.1, iv a.2.2.1, iv a.2.2.2]
theorem wayBf (a b : R4) (e : Bool) : T.path [e] (beforeL [p4 a, p4 b]) = some ([(a.2.1 != b.2.1, e)], bv (bif e then a.2.1 == 1 else decide (a.2.2.1 < b.2.2.1))) := by cases e <;> kernel_rfl
theorem befL_ok : SpecOk Try.prog 102 befL := beforeL_ok.of_eval fun args v hv => by
  unfold befL at hv
  split at hv
  · rename_i a1 a2 a3 a4 b1 b2 b3 b4
    simp only [T.eval, Option.some.injEq] at hv
    subst hv
    exact T.path_eval (wayBf (a1, a2, a3, a4) (b1, b2, b3, b4) (a2 != b2)) ⟨rfl, trivial⟩
  · cases hv
def remL (args : List V) (h : Heap) : T (V × Heap) := match args with
  | [.ptr 0 0, .s (.int .i64 i)] => opt (dH h) fun x => .ite none (okN x.2.1 x.2.2 && (decide (0 ≤ i) && decide (i < (x.2.1 : Int)))) (.ret (.tup [], hL x.1 (x.2.1 - 1) (x.2.2.eraseIdx i.toNat))) .fail
  | _ => .fail
theorem wayRm (m i : Int) (n : Nat) (l : List R4) : T.path [true] (remE [.ptr 0 0, iv i] (hL m n l)) = some ([(decide (n = l.length ∧ l.length ≤ 100000 ∧ 0 ≤ i ∧ i < (n : Int) ∧ IntKind.wrap .i64 (i + 1) = i + 1), true)], (.tup [], hL m (n - 1) (l.eraseIdx i.toNat))) := by kernel_rfl
theorem remL_ok : ObjOk Try.prog 75 remL := remE_ok.of_eval fun args h v hv => by
  unfold remL at hv
  split at hv
  · rename_i i
    obtain ⟨⟨m, n, l⟩, hd, hv⟩ := opt_eval hv
    have := dH_ok hd
    subst this
    obtain ⟨hc, hv⟩ := ite_some hv
    simp only [Bool.and_eq_true, decide_eq_true_eq] at hc
    obtain ⟨hc1, hc2, hc3⟩ := hc
    obtain ⟨h1, h2⟩ := okN_is (n := n) (l := l) hc1
    simp only [T.eval, Option.some.injEq] at hv
    subst hv
    exact T.path_eval (wayRm m i n l) ⟨decide_eq_true ⟨h1, h2, hc2, hc3, wrap64_in (by omega) (by omega)⟩, trivial⟩
  · cases hv
def allL (args : List V) (h : Heap) : T (V × Heap) := match args with
  | [.ptr 0 0] => opt (dH h) fun x => .ite none (okN x.2.1 x.2.2) (.ret (.sub 10 4 0 x.2.2.length, hL x.1 x.2.1 x.2.2 ++ [(10, podB x.2.2)])) .fail
  | _ => .fail
theorem wayAl (m : Int) (n : Nat) (l : List R4) : T.path [true, true] (allE [.ptr 0 0] (hL m n l)) = some ([(decide (0 + n ≤ l.length), true), (decide (((l.drop 0).take n).length ≤ 100000), true)], (.sub 10 4 0 ((l.drop 0).take n).length, hL m n l ++ [(10, podB ((l.drop 0).take n))])) := by kernel_rfl
theorem allL_ok : ObjOk Try.prog 31 allL := allE_ok.of_eval fun args h v hv => by
  unfold allL at hv
  split at hv
  · obtain ⟨⟨m, n, l⟩, hd, hv⟩ := opt_eval hv
    have := dH_ok hd
    subst this
    obtain ⟨hc, hv⟩ := ite_some hv
    obtain ⟨h1, h2⟩ := okN_is (n := n) (l := l) hc
    simp only [T.eval, Option.some.injEq] at hv
    subst hv
    have e : (l.drop 0).take n = l := by rw [List.drop_zero, List.take_of_length_le (by omega)]
    refine (T.path_eval (wayAl m n l) ⟨decide_eq_true (by omega), decide_eq_true (by rw [e]; exact h2), trivial⟩).trans ?_
    rw [e]
  · cases hv
noncomputable def J3 : Cfg := ⟨Try.prog, lookG [(102, .val befL)], [], 0⟩
theorem J3_ok : J3.Ok := Cfg.ok ⟨befL_ok, trivial⟩ trivial
noncomputable def lpSp : Code := loopAt Try.prog 95 0
structure PSp where (m : Int) (n : Nat) (l : List R4) (k : Nat) (z : Int)
structure ASp where (b : V) (i : Int)
abbrev SSp : List (Nat × Src) := [(0, .same), (1, .same)]
def vsSp (p : PSp) (a : ASp) : List V := [.ptr 0 0, a.b, .sub 1 4 0 p.k, iv p.z, iv a.i]
def bsSp (p : PSp) (a : ASp) : List Blk := [.cells 108 [iv p.m, .sub 1 4 0 p.n], .lst true 39 [.int .i64, .int .i64, .int .i64, .int .i64] p.l]
noncomputable def FSp (p : PSp) (a : ASp) : St := mkSt [0,3,13,14,15] (keysR SSp) 1000 46 (vsSp p a) (bsSp p a)
noncomputable def rdSp (p : PSp) (a : ASp) : T (Ex × St) := T.anon (roundN J3 noLoops lpSp [0,3,13,14,15] SSp 1000 1000 (mkSt [0,3,13,14,15] (keysR SSp) 1000 46 (vsSp p a) (bsSp p a)))
def decSp : List V → List Blk → Option (PSp × ASp)
  | [.ptr 0 0, b, .sub 1 4 0 k, .s (.int .i64 z), .s (.int .i64 i)], [.cells tt0 [.s (.int .i64 m), .sub 1 4 0 n], .lst true tt1 [.int .i64, .int .i64, .int .i64, .int .i64] l] =>
    if tt0 = 108 then if tt1 = 39 then some (⟨m, n, l, k, z⟩, ⟨b, i⟩) else none else none
  | _, _ => none
theorem decSp_ok (l : List V) (b : List Blk) (d : PSp × ASp) (h : decSp l b = some d) : l = vsSp d.1 d.2 ∧ b = bsSp d.1 d.2 := by
  unfold decSp at h
  split at h
  · obtain ⟨e0, h⟩ := ite_some0 h
    obtain ⟨e1, h⟩ := ite_some0 h
    subst e0 e1
    cases h
    exact ⟨rfl, rfl⟩
  · cases h
noncomputable def rgSp : Nat := (firstReg lpSp).getD 0
theorem rgSp_is : firstReg lpSp = some rgSp := by kernel_rfl
end Go.Proofs.Ytfnadebkobfemaa.Lif
