/- Layer 20: QueueDepths, its loops. -/
import Derived.Test.YtenifknkahogjaaQueW
namespace Go.Proofs.Ytenifknkahogjaa.Que
open Go.Eng Go.RowKit
set_option linter.unusedVariables false
set_option linter.unusedSimpArgs false
def lateU (u : Option Int) : Bool := match u with
  | none => false
  | some x => decide (5 < x)
theorem way1 (p : P1) (a : A1) : T.path [true, false, false, true, false] (rd1 p a) = some ([(decide (a.i < p.k), true), (bif decide (a.i < 0) then true else lateU a.u, false), (decide (p.d ≤ (a.n : Int)), false), (true && (decide (a.n ≤ a.l.length) && decide (a.n + [(a.i, (5 : Int))].length ≤ 1000000)), true), ((0 : Int) != 0, false)],
  (.normal, F1 p ⟨some 5, a.n + [(a.i, (5 : Int))].length, List.take a.n a.l ++ [(a.i, (5 : Int))], IntKind.wrap .i64 (a.i + 1)⟩)) := by
  obtain ⟨u, n, l, i⟩ := a
  cases u <;> kernel_rfl
theorem way1x (p : P1) (a : A1) : T.path [false] (rd1 p a) = some ([(decide (a.i < p.k), false)], (.exit 0, F1 p a)) := by
  obtain ⟨u, n, l, i⟩ := a
  cases u <;> kernel_rfl
def row5 (s : Int) (l : List (Int × Int)) : Prop := ∀ j : Nat, j < l.length → l[j]? = some (s + j, 5)
def ok1 (p : P1) (a : A1) : Prop := p.d = 30 ∧ 0 ≤ p.k ∧ p.k ≤ 30 ∧ a.n = a.l.length ∧ a.i = a.l.length ∧ a.i ≤ p.k ∧ row5 0 a.l ∧ (a.u = none ∨ a.u = some 5)
def go1 (p : P1) (a : A1) : Bool := decide (a.i < p.k)
def mu1 (p : P1) (a : A1) : Nat := (p.k - a.i).toNat
theorem step1 (p : P1) (a : A1) (h : ok1 p a) (hg : go1 p a = true) : ∃ b, stepC ok1 rd1 F1 mu1 p a b := by
  obtain ⟨h1, h2, h3, h4, h5, h6, h7, h8⟩ := id h
  have hi : a.i < p.k := of_decide_eq_true hg
  have hw : IntKind.wrap .i64 (a.i + 1) = a.i + 1 := wrap64_in (by omega) (by omega)
  have hu : lateU a.u = false := by rcases h8 with q | q <;> rw [q] <;> rfl
  refine ⟨_, T.path_eval (way1 p a) ⟨hg, ?_, decide_eq_false (by omega), ?_, rfl, trivial⟩, ⟨h1, h2, h3, ?_, ?_, ?_, ?_, .inr rfl⟩, ?_⟩
  · rw [hu, decide_eq_false (show ¬ a.i < 0 by omega)]; rfl
  · rw [decide_eq_true (show a.n ≤ a.l.length by omega), decide_eq_true (show a.n + [(a.i, (5 : Int))].length ≤ 1000000 by simp; omega)]; rfl
  · show a.n + [(a.i, (5 : Int))].length = (List.take a.n a.l ++ [(a.i, (5 : Int))]).length
    rw [h4]; simp
  · show IntKind.wrap .i64 (a.i + 1) = ((List.take a.n a.l ++ [(a.i, (5 : Int))]).length : Int)
    rw [hw, h4]; simp; omega
  · show IntKind.wrap .i64 (a.i + 1) ≤ p.k; rw [hw]; omega
  · show row5 0 (List.take a.n a.l ++ [(a.i, (5 : Int))])
    rw [h4, List.take_length]
    intro j hj
    rw [List.length_append, List.length_singleton] at hj
    rw [List.getElem?_append]
    by_cases e : j < a.l.length
    · rw [if_pos e]; exact h7 j e
    · rw [if_neg e]
      have : j - a.l.length = 0 := by omega
      rw [this]
      show some (a.i, (5 : Int)) = _
      rw [show a.i = 0 + (j : Int) by omega]
  · show (p.k - IntKind.wrap .i64 (a.i + 1)).toNat < (p.k - a.i).toNat
    rw [hw]; omega
noncomputable def out1 (p : P1) (a : A1) : T (Ex × St) := .ite none a.u.isSome (.ret (.exit 0, F1 p ⟨some (a.u.getD 0), a.n, a.l, a.i⟩)) (.ret (.exit 0, F1 p ⟨none, a.n, a.l, a.i⟩))
theorem ex1 (p : P1) (a : A1) (h : ok1 p a) (hg : go1 p a = false) (r : Ex × St) (hr : (out1 p a).eval = some r) : r.1 ≠ .normal ∧ (rd1 p a).eval = some r := by
  have hx := T.path_eval (way1x p a) ⟨hg, trivial⟩
  obtain ⟨u, n, l, i⟩ := a
  cases u with
  | none =>
    obtain rfl := Option.some.inj hr
    exact ⟨by simp, hx⟩
  | some x =>
    obtain rfl := Option.some.inj hr
    exact ⟨by simp, hx⟩
def dec1 : List V → List Blk → Option (P1 × A1)
  | [.s (.int .i64 c), .s (.int .i64 k), .s (.int .i64 g), .ptr 0 0, .s (.int .i64 i)], [.cells t0 [.s (.int .i64 d), .nilIface, .sub 1000 2 0 n], .lst true t1 [.int .i64, .int .i64] l] =>
    if t0 = 99 then if t1 = 102 then some (⟨c, k, g, d⟩, ⟨none, n, l, i⟩) else none else none
  | [.s (.int .i64 c), .s (.int .i64 k), .s (.int .i64 g), .ptr 0 0, .s (.int .i64 i)], [.cells t0 [.s (.int .i64 d), .iface ti (.s (.int .i64 u)), .sub 1000 2 0 n], .lst true t1 [.int .i64, .int .i64] l] =>
    if ti = 2 then if t0 = 99 then if t1 = 102 then some (⟨c, k, g, d⟩, ⟨some u, n, l, i⟩) else none else none else none
  | _, _ => none
theorem dec1_ok (l : List V) (b : List Blk) (d : P1 × A1) (h : dec1 l b = some d) : l = vs1 d.1 d.2 ∧ b = bs1 d.1 d.2 := by
  unfold dec1 at h
  split at h
  · split at h
    · rename_i ht0
      split at h
      · rename_i ht1
        subst ht0 ht1
        cases h
        exact ⟨rfl, rfl⟩
      · cases h
    · cases h
  · split at h
    · rename_i hti
      split at h
      · rename_i ht0
        split at h
        · rename_i ht1
          subst hti ht0 ht1
          cases h
          exact ⟨rfl, rfl⟩
        · cases h
      · cases h
    · cases h
  · cases h
noncomputable def fam1 : LSpec := famD [2,7,8,9,10] SD1 1000 1001 97 dec1 ok1 go1 rd1 F1 mu1 out1
theorem lp1_ok : LoopOk J3 qd1 fam1 := famD_ok (vs := vs1) (bs := bs1) J3_ok mixed (noLoops_ok _) dec1_ok (fun _ _ => rfl) (fun _ _ => rfl) step1 ex1
theorem way2 (p : P2) (a : A2) : T.path [true, false, true, true, true, false] (rd2 p a) = some ([(decide (a.i < p.m), true), ((a.n : Int) == 0, false), (decide ((0 : Int) ≤ 0) && (decide ((0 : Int) < (a.n : Int)) && decide (0 + Int.toNat 0 < a.l.length)), true), (decide (0 + Int.toNat 0 < a.l.length), true),
  (decide ((0 : Int) ≤ 1) && (decide ((1 : Int) ≤ (a.n : Int)) && (decide ((a.n : Int) ≤ (a.n : Int)) && decide (a.n ≤ a.l.length))), true), ((g2w a.l 0).1 != a.i, false)],
  (.normal, F2 p ⟨Int.toNat (a.n : Int) - Int.toNat 1, (a.l.drop (Int.toNat 1)).take (Int.toNat (a.n : Int) - Int.toNat 1), IntKind.wrap .i64 (a.i + 1)⟩)) := by
  obtain ⟨k, g, m, d, u⟩ := p
  cases u <;> kernel_rfl
theorem way2x (p : P2) (a : A2) : T.path [false] (rd2 p a) = some ([(decide (a.i < p.m), false)], (.exit 2, F2 p a)) := by
  obtain ⟨k, g, m, d, u⟩ := p
  cases u <;> kernel_rfl
def ok2 (p : P2) (a : A2) : Prop := 0 ≤ p.m ∧ p.m ≤ p.k ∧ p.k ≤ 30 ∧ a.n = a.l.length ∧ 0 ≤ a.i ∧ a.i ≤ p.m ∧ (a.l.length : Int) = p.k - a.i ∧ row5 a.i a.l
def go2 (p : P2) (a : A2) : Bool := decide (a.i < p.m)
def mu2 (p : P2) (a : A2) : Nat := (p.m - a.i).toNat
theorem step2 (p : P2) (a : A2) (h : ok2 p a) (hg : go2 p a = true) : ∃ b, stepC ok2 rd2 F2 mu2 p a b := by
  obtain ⟨h1, h2, h3, h4, h5, h6, h7, h8⟩ := id h
  have hi : a.i < p.m := of_decide_eq_true hg
  have hw : IntKind.wrap .i64 (a.i + 1) = a.i + 1 := wrap64_in (by omega) (by omega)
  have hl : 0 < a.l.length := by omega
  have e1 : Int.toNat 1 = 1 := rfl
  have e2 : Int.toNat (a.n : Int) = a.n := Int.toNat_natCast _
  have hf : g2w a.l 0 = (a.i, 5) := by
    have := h8 0 hl
    unfold g2w
    rw [List.getD_eq_getElem?_getD, show 0 + Int.toNat 0 = 0 from rfl, this]
    simp
  have hlen : ((a.l.drop 1).take (a.n - 1)).length = a.l.length - 1 := by rw [List.length_take, List.length_drop]; omega
  refine ⟨_, T.path_eval (way2 p a) ⟨hg, ?_, ?_, decide_eq_true (by show 0 + 0 < a.l.length; omega), ?_, ?_, trivial⟩, ⟨h1, h2, h3, ?_, ?_, ?_, ?_, ?_⟩, ?_⟩
  · rw [beq_eq_false_iff_ne]; omega
  · rw [decide_eq_true (show (0 : Int) < (a.n : Int) by omega), decide_eq_true (show 0 + Int.toNat 0 < a.l.length by show 0 + 0 < a.l.length; omega)]; rfl
  · rw [decide_eq_true (show (1 : Int) ≤ (a.n : Int) by omega), decide_eq_true (Int.le_refl (a.n : Int)), decide_eq_true (show a.n ≤ a.l.length by omega)]; rfl
  · rw [hf]; simp
  · show Int.toNat (a.n : Int) - Int.toNat 1 = ((a.l.drop (Int.toNat 1)).take (Int.toNat (a.n : Int) - Int.toNat 1)).length
    rw [e1, e2, hlen]; omega
  · show 0 ≤ IntKind.wrap .i64 (a.i + 1); rw [hw]; omega
  · show IntKind.wrap .i64 (a.i + 1) ≤ p.m; rw [hw]; omega
  · show (((a.l.drop (Int.toNat 1)).take (Int.toNat (a.n : Int) - Int.toNat 1)).length : Int) = p.k - IntKind.wrap .i64 (a.i + 1)
    rw [e1, e2, hlen, hw]; omega
  · show row5 (IntKind.wrap .i64 (a.i + 1)) ((a.l.drop (Int.toNat 1)).take (Int.toNat (a.n : Int) - Int.toNat 1))
    rw [e1, e2, hw]
    intro j hj
    rw [hlen] at hj
    rw [List.getElem?_take, if_pos (by omega), List.getElem?_drop, h8 (1 + j) (by omega)]
    congr 2
    omega
  · show (p.m - IntKind.wrap .i64 (a.i + 1)).toNat < (p.m - a.i).toNat
    rw [hw]; omega
theorem ex2 (p : P2) (a : A2) (h : ok2 p a) (hg : go2 p a = false) : (rd2 p a).eval = some (.exit 2, F2 p a) := T.path_eval (way2x p a) ⟨hg, trivial⟩
def dec2 : List V → List Blk → Option (P2 × A2)
  | [.s (.int .i64 k), .s (.int .i64 g), .ptr 0 0, .s (.int .i64 m), .s (.int .i64 i)], [.cells t0 [.s (.int .i64 d), .nilIface, .sub 2000 2 0 n], .lst true t1 [.int .i64, .int .i64] l] =>
    if t0 = 99 then if t1 = 102 then some (⟨k, g, m, d, none⟩, ⟨n, l, i⟩) else none else none
  | [.s (.int .i64 k), .s (.int .i64 g), .ptr 0 0, .s (.int .i64 m), .s (.int .i64 i)], [.cells t0 [.s (.int .i64 d), .iface ti (.s (.int .i64 u)), .sub 2000 2 0 n], .lst true t1 [.int .i64, .int .i64] l] =>
    if ti = 2 then if t0 = 99 then if t1 = 102 then some (⟨k, g, m, d, some u⟩, ⟨n, l, i⟩) else none else none else none
  | _, _ => none
theorem dec2_ok (l : List V) (b : List Blk) (d : P2 × A2) (h : dec2 l b = some d) : l = vs2 d.1 d.2 ∧ b = bs2 d.1 d.2 := by
  unfold dec2 at h
  split at h
  · split at h
    · rename_i ht0
      split at h
      · rename_i ht1
        subst ht0 ht1
        cases h
        exact ⟨rfl, rfl⟩
      · cases h
    · cases h
  · split at h
    · rename_i hti
      split at h
      · rename_i ht0
        split at h
        · rename_i ht1
          subst hti ht0 ht1
          cases h
          exact ⟨rfl, rfl⟩
        · cases h
      · cases h
    · cases h
  · cases h
noncomputable def fam2 : LSpec := famC [7,8,9,11,12] SD2 2000 2001 97 dec2 ok2 go2 rd2 F2 mu2 (.exit 2)
theorem lp2_ok : LoopOk J3 qd2 fam2 := famC_ok (vs := vs2) (bs := bs2) J3_ok mixed (noLoops_ok _) dec2_ok (by simp) (fun _ _ => rfl) (fun _ _ => rfl) step2 ex2
noncomputable def dlist : List (Nat × LSpec) := [(6, fam1), (14, fam2)]
theorem dfind1 : findL dlist 6 = some fam1 := rfl
theorem dfind2 : findL dlist 14 = some fam2 := rfl
theorem dreg1 : firstReg qd1 = some 6 := by kernel_rfl
theorem dreg2 : firstReg qd2 = some 14 := by kernel_rfl
theorem dlps_ok : ∀ a ∈ loopsIn (codeOf Try.prog 6), ∀ sp, byReg dlist a = some sp → LoopOk J3 a sp := by
  have e : loopsIn (codeOf Try.prog 6) = [qd1, qd2] := by kernel_rfl
  rw [e]
  intro a ha
  rcases List.mem_cons.1 ha with h | ha
  · rw [h]; exact byReg_mem dreg1 dfind1 lp1_ok
  rcases List.mem_cons.1 ha with h | ha
  · rw [h]; exact byReg_mem dreg2 dfind2 lp2_ok
  · cases ha
end Go.Proofs.Ytenifknkahogjaa.Que
