/- Layer 20: QueueLate, its loops. -/
import Derived.Test.YtenifknkahogjaaQueAd
namespace Go.Proofs.Ytenifknkahogjaa.Que
open Go.Eng Go.RowKit
set_option linter.unusedVariables false
set_option linter.unusedSimpArgs false
def tL (p : P3) (a : A3) : Int := IntKind.wrap .i64 (a.t + IntKind.wrap .i64 (Int.tmod (IntKind.wrap .u64 (gI p.g a.i)) 6))
def lateT (t : Int) (u : Option Int) : Bool := match u with
  | none => false
  | some x => decide (t < x)
def go3 (p : P3) (a : A3) : Bool := bif decide (a.i < (p.k : Int)) then decide (a.i < 30) else false
theorem way3 (p : P3) (a : A3) : T.path [true, true, true, false, true, false, false, true, false] (rd3 p a) = some ([(go3 p a, true), (idR p.g p.k a.i, true), (ldR p.g a.i, true), ((6 : Int) == 0, false), (true && (decide (a.j ≤ a.W.length) && decide (a.j + [tL p a].length ≤ 1000000)), true),
  (bif decide (a.i < 0) then true else lateT (tL p a) a.u, false), (decide (p.d ≤ (a.n : Int)), false), (true && (decide (a.n ≤ a.l.length) && decide (a.n + [(a.i, tL p a)].length ≤ 1000000)), true), ((0 : Int) != 0, false)],
  (.normal, F3 p ⟨some (tL p a), a.n + [(a.i, tL p a)].length, List.take a.n a.l ++ [(a.i, tL p a)], List.take a.j a.W ++ [tL p a], a.j + [tL p a].length, tL p a, IntKind.wrap .i64 (a.i + 1)⟩)) := by
  obtain ⟨u, n, l, W, j, t, i⟩ := a
  cases u <;> kernel_rfl
theorem way3x (p : P3) (a : A3) : T.path [false] (rd3 p a) = some ([(go3 p a, false)], (.exit 0, F3 p a)) := by
  obtain ⟨u, n, l, W, j, t, i⟩ := a
  cases u <;> kernel_rfl
def ok3 (p : P3) (a : A3) : Prop := p.k = p.g.length ∧ p.d = 30 ∧ a.n = a.l.length ∧ a.l.length = a.W.length ∧ a.j = a.W.length ∧ a.i = a.W.length ∧ a.i ≤ 30 ∧ 0 ≤ a.t ∧ a.t ≤ 5 * a.i ∧ (∀ x ∈ a.W, 0 ≤ x ∧ x ≤ 150) ∧ (∀ j : Nat, j < a.W.length → a.l[j]? = some ((j : Int), gI a.W j)) ∧ (a.u = none ∨ ∃ x, a.u = some x ∧ x ≤ a.t)
def mu3 (p : P3) (a : A3) : Nat := (30 - a.i).toNat
theorem umod6 (a : Int) {m : Int} (hm : 0 < m) : 0 ≤ Int.tmod (IntKind.wrap .u64 a) m ∧ Int.tmod (IntKind.wrap .u64 a) m < m := by
  rw [wrapu64, Int.tmod_eq_emod_of_nonneg (Int.emod_nonneg _ (by decide))]
  exact modU_range a hm
theorem gI_app {W : List Int} {x : Int} {j : Nat} (h : j < W.length + 1) : gI (W ++ [x]) j = if j < W.length then gI W j else x := by
  unfold gI
  rw [List.getD_eq_getElem?_getD, List.getD_eq_getElem?_getD, show 0 + (j : Int).toNat = j by omega, List.getElem?_append]
  by_cases e : j < W.length
  · rw [if_pos e, if_pos e]
  · rw [if_neg e, if_neg e, show j - W.length = 0 by omega]; rfl
theorem step3 (p : P3) (a : A3) (h : ok3 p a) (hg : go3 p a = true) : ∃ b, stepC ok3 rd3 F3 mu3 p a b := by
  obtain ⟨h1, h2, h3, h4, h5, h6, h7, h8, h9, h10, h11, h12⟩ := id h
  have hg0 := hg
  unfold go3 at hg
  rw [cond_and] at hg
  simp only [Bool.and_eq_true, decide_eq_true_eq] at hg
  have hw : IntKind.wrap .i64 (a.i + 1) = a.i + 1 := wrap64_in (by omega) (by omega)
  have b1 := umod6 (gI p.g a.i) (m := 6) (by decide)
  have ht : tL p a = a.t + Int.tmod (IntKind.wrap .u64 (gI p.g a.i)) 6 := by
    unfold tL
    rw [wrap64_in (n := Int.tmod _ _) (by omega) (by omega), wrap64_in (by omega) (by omega)]
  obtain ⟨x1, x2⟩ := idR_is (g := p.g) (k := p.k) (i := a.i) h1 (by omega) hg.1
  have hu : lateT (tL p a) a.u = false := by
    rcases h12 with q | ⟨x, q, hx⟩ <;> rw [q]
    · rfl
    · exact decide_eq_false (by omega)
  have t1 : a.W.take a.j = a.W := by rw [h5, List.take_length]
  have t2 : a.l.take a.n = a.l := by rw [h3, List.take_length]
  refine ⟨_, T.path_eval (way3 p a) ⟨hg0, x1, x2, rfl, ?_, ?_, decide_eq_false (by omega), ?_, rfl, trivial⟩, ?_, ?_⟩
  · rw [decide_eq_true (show a.j ≤ a.W.length by omega), decide_eq_true (show a.j + [tL p a].length ≤ 1000000 by simp; omega)]; rfl
  · rw [hu, decide_eq_false (show ¬ a.i < 0 by omega)]; rfl
  · rw [decide_eq_true (show a.n ≤ a.l.length by omega), decide_eq_true (show a.n + [(a.i, tL p a)].length ≤ 1000000 by simp; omega)]; rfl
  · rw [t1, t2, hw]
    refine ⟨h1, h2, ?_, ?_, ?_, ?_, ?_, ?_, ?_, ?_, ?_, .inr ⟨_, rfl, Int.le_refl _⟩⟩
    · show a.n + [(a.i, tL p a)].length = (a.l ++ [(a.i, tL p a)]).length; rw [h3]; simp
    · show (a.l ++ [(a.i, tL p a)]).length = (a.W ++ [tL p a]).length; simp; omega
    · show a.j + [tL p a].length = (a.W ++ [tL p a]).length; rw [h5]; simp
    · show a.i + 1 = ((a.W ++ [tL p a]).length : Int); simp; omega
    · show a.i + 1 ≤ 30; omega
    · show 0 ≤ tL p a; omega
    · show tL p a ≤ 5 * (a.i + 1); omega
    · intro x hx
      rcases List.mem_append.1 hx with q | q
      · exact h10 x q
      · rw [List.mem_singleton.1 q]; omega
    · show ∀ j : Nat, j < (a.W ++ [tL p a]).length → (a.l ++ [(a.i, tL p a)])[j]? = some ((j : Int), gI (a.W ++ [tL p a]) j)
      intro j hj
      rw [List.length_append, List.length_singleton] at hj
      rw [gI_app hj, List.getElem?_append]
      by_cases e : j < a.W.length
      · rw [if_pos (by omega), if_pos e]; exact h11 j e
      · rw [if_neg (by omega), if_neg e, show j - a.l.length = 0 by omega]
        show some (a.i, tL p a) = _
        rw [show a.i = (j : Int) by omega]
  · show (30 - IntKind.wrap .i64 (a.i + 1)).toNat < (30 - a.i).toNat
    rw [hw]; omega
noncomputable def out3 (p : P3) (a : A3) : T (Ex × St) := .ite none a.u.isSome (.ret (.exit 0, F3 p ⟨some (a.u.getD 0), a.n, a.l, a.W, a.j, a.t, a.i⟩)) (.ret (.exit 0, F3 p ⟨none, a.n, a.l, a.W, a.j, a.t, a.i⟩))
theorem ex3 (p : P3) (a : A3) (h : ok3 p a) (hg : go3 p a = false) (r : Ex × St) (hr : (out3 p a).eval = some r) : r.1 ≠ .normal ∧ (rd3 p a).eval = some r := by
  have hx := T.path_eval (way3x p a) ⟨hg, trivial⟩
  obtain ⟨u, n, l, W, j, t, i⟩ := a
  cases u with
  | none =>
    obtain rfl := Option.some.inj hr
    exact ⟨by simp, hx⟩
  | some x =>
    obtain rfl := Option.some.inj hr
    exact ⟨by simp, hx⟩
def dec3 : List V → List Blk → Option (P3 × A3)
  | [.sub 0 1 0 k, .s (.int .i64 b), .s (.int .i64 c), .ptr 1 0, .sub 1001 1 0 j, .s (.int .i64 t), .s (.int .i64 i)], [.lst false t3 [.int .i64] g, .cells t0 [.s (.int .i64 d), .nilIface, .sub 1000 2 0 n], .lst true t1 [.int .i64, .int .i64] l, .lst true t2 [.int .i64] W] =>
    if t3 = 3 then if t0 = 99 then if t1 = 102 then if t2 = 3 then some (⟨g, k, b, c, d⟩, ⟨none, n, l, W, j, t, i⟩) else none else none else none else none
  | [.sub 0 1 0 k, .s (.int .i64 b), .s (.int .i64 c), .ptr 1 0, .sub 1001 1 0 j, .s (.int .i64 t), .s (.int .i64 i)], [.lst false t3 [.int .i64] g, .cells t0 [.s (.int .i64 d), .iface ti (.s (.int .i64 u)), .sub 1000 2 0 n], .lst true t1 [.int .i64, .int .i64] l, .lst true t2 [.int .i64] W] =>
    if ti = 2 then if t3 = 3 then if t0 = 99 then if t1 = 102 then if t2 = 3 then some (⟨g, k, b, c, d⟩, ⟨some u, n, l, W, j, t, i⟩) else none else none else none else none else none
  | _, _ => none
theorem ite_some' {α : Type} {c : Prop} [Decidable c] {x : Option α} {y : α} (h : (if c then x else none) = some y) : c ∧ x = some y := by
  split at h
  · rename_i hc; exact ⟨hc, h⟩
  · cases h
theorem dec3_ok (l : List V) (b : List Blk) (d : P3 × A3) (h : dec3 l b = some d) : l = vs3 d.1 d.2 ∧ b = bs3 d.1 d.2 := by
  unfold dec3 at h
  split at h
  · obtain ⟨e0, h⟩ := ite_some' h
    obtain ⟨e1, h⟩ := ite_some' h
    obtain ⟨e2, h⟩ := ite_some' h
    obtain ⟨e3, h⟩ := ite_some' h
    subst e0 e1 e2 e3
    cases h
    exact ⟨rfl, rfl⟩
  · obtain ⟨e0, h⟩ := ite_some' h
    obtain ⟨e1, h⟩ := ite_some' h
    obtain ⟨e2, h⟩ := ite_some' h
    obtain ⟨e3, h⟩ := ite_some' h
    obtain ⟨e4, h⟩ := ite_some' h
    subst e0 e1 e2 e3 e4
    cases h
    exact ⟨rfl, rfl⟩
  · cases h
noncomputable def fam3 : LSpec := famD [0,1,2,7,8,9,10] SE1 1000 1002 125 dec3 ok3 go3 rd3 F3 mu3 out3
theorem lp3_ok : LoopOk J4 ql1 fam3 := famD_ok (vs := vs3) (bs := bs3) J4_ok mixed (noLoops_ok _) dec3_ok (fun _ _ => rfl) (fun _ _ => rfl) step3 ex3
def go4 (p : P4) (a : A4) : Bool := bif decide (a.k < (p.j : Int)) then decide (p.aa ≤ IntKind.wrap .i64 (p.nn - gI p.W a.k)) else false
theorem way4 (p : P4) (a : A4) (e : Bool) : T.path [true, true, e] (rd4 p a) = some ([(bif decide (a.k < (p.j : Int)) == true && true then idR p.W p.j a.k else true, true), (bif decide (a.k < (p.j : Int)) == true && true then ldR p.W a.k else true, true), (go4 p a, e)], bif e then (.normal, F4 p ⟨IntKind.wrap .i64 (a.k + 1)⟩) else (.exit 2, F4 p a)) := by
  obtain ⟨d, u, n, l, W, j, X, q, nn, aa⟩ := p
  cases u <;> cases e <;> kernel_rfl
def ok4 (p : P4) (a : A4) : Prop := p.j = p.W.length ∧ p.W.length ≤ 30 ∧ 0 ≤ p.nn ∧ p.nn ≤ 200 ∧ 0 ≤ p.aa ∧ p.aa ≤ 41 ∧ (∀ x ∈ p.W, 0 ≤ x ∧ x ≤ 150) ∧ 0 ≤ a.k ∧ a.k ≤ p.W.length ∧ ∀ j : Nat, (j : Int) < a.k → p.aa ≤ p.nn - gI p.W j
def mu4 (p : P4) (a : A4) : Nat := (p.W.length - a.k).toNat
theorem gd_is {p : P4} {a : A4} (h : ok4 p a) : (bif decide (a.k < (p.j : Int)) == true && true then idR p.W p.j a.k else true) = true ∧ (bif decide (a.k < (p.j : Int)) == true && true then ldR p.W a.k else true) = true := by
  cases e : decide (a.k < (p.j : Int))
  · exact ⟨rfl, rfl⟩
  · obtain ⟨x1, x2⟩ := idR_is (g := p.W) (k := p.j) (i := a.k) h.1 h.2.2.2.2.2.2.2.1 (of_decide_eq_true e)
    exact ⟨x1, x2⟩
theorem gI_in {W : List Int} (h : ∀ x ∈ W, 0 ≤ x ∧ x ≤ 150) (i : Int) : 0 ≤ gI W i ∧ gI W i ≤ 150 := by
  unfold gI
  rw [List.getD_eq_getElem?_getD]
  cases e : W[0 + i.toNat]? with
  | none => exact ⟨Int.le_refl 0, by show (0 : Int) ≤ 150; decide⟩
  | some x => exact h x (List.mem_of_getElem? e)
theorem step4 (p : P4) (a : A4) (h : ok4 p a) (hg : go4 p a = true) : ∃ b, stepC ok4 rd4 F4 mu4 p a b := by
  obtain ⟨g1, g2⟩ := gd_is h
  obtain ⟨h1, h2, h3, h4, h5, h6, h7, h8, h9, h10⟩ := id h
  have hg0 := hg
  unfold go4 at hg
  rw [cond_and] at hg
  simp only [Bool.and_eq_true, decide_eq_true_eq] at hg
  have hv := gI_in h7 a.k
  rw [wrap64_in (n := p.nn - gI p.W a.k) (by omega) (by omega)] at hg
  have hw : IntKind.wrap .i64 (a.k + 1) = a.k + 1 := wrap64_in (by omega) (by omega)
  refine ⟨_, T.path_eval (way4 p a true) ⟨g1, g2, hg0, trivial⟩, ⟨h1, h2, h3, h4, h5, h6, h7, ?_, ?_, ?_⟩, ?_⟩
  · show 0 ≤ IntKind.wrap .i64 (a.k + 1); rw [hw]; omega
  · show IntKind.wrap .i64 (a.k + 1) ≤ _; rw [hw]; omega
  · show ∀ j : Nat, (j : Int) < IntKind.wrap .i64 (a.k + 1) → _
    rw [hw]
    intro j hj
    by_cases e : (j : Int) = a.k
    · rw [e]; exact hg.2
    · exact h10 j (by omega)
  · show (p.W.length - IntKind.wrap .i64 (a.k + 1)).toNat < (p.W.length - a.k).toNat
    rw [hw]; omega
theorem ex4 (p : P4) (a : A4) (h : ok4 p a) (hg : go4 p a = false) : (rd4 p a).eval = some (.exit 2, F4 p a) := T.path_eval (way4 p a false) ⟨(gd_is h).1, (gd_is h).2, hg, trivial⟩
def dec4 : List V → List Blk → Option (P4 × A4)
  | [.ptr 1 0, .sub 2001 1 0 j, .s (.int .i64 nn), .s (.int .i64 aa), .sub 2002 1 0 q, .s (.int .i64 k)], [.cells t0 [.s (.int .i64 d), .nilIface, .sub 2000 2 0 n], .lst true t1 [.int .i64, .int .i64] l, .lst true t2 [.int .i64] W, .lst true t3 [.int .i64] X] =>
    if t3 = 3 then if t0 = 99 then if t1 = 102 then if t2 = 3 then some (⟨d, none, n, l, W, j, X, q, nn, aa⟩, ⟨k⟩) else none else none else none else none
  | [.ptr 1 0, .sub 2001 1 0 j, .s (.int .i64 nn), .s (.int .i64 aa), .sub 2002 1 0 q, .s (.int .i64 k)], [.cells t0 [.s (.int .i64 d), .iface ti (.s (.int .i64 u)), .sub 2000 2 0 n], .lst true t1 [.int .i64, .int .i64] l, .lst true t2 [.int .i64] W, .lst true t3 [.int .i64] X] =>
    if ti = 2 then if t3 = 3 then if t0 = 99 then if t1 = 102 then if t2 = 3 then some (⟨d, some u, n, l, W, j, X, q, nn, aa⟩, ⟨k⟩) else none else none else none else none else none
  | _, _ => none
theorem dec4_ok (l : List V) (b : List Blk) (d : P4 × A4) (h : dec4 l b = some d) : l = vs4 d.1 d.2 ∧ b = bs4 d.1 := by
  unfold dec4 at h
  split at h
  · obtain ⟨e0, h⟩ := ite_some' h
    obtain ⟨e1, h⟩ := ite_some' h
    obtain ⟨e2, h⟩ := ite_some' h
    obtain ⟨e3, h⟩ := ite_some' h
    subst e0 e1 e2 e3
    cases h
    exact ⟨rfl, rfl⟩
  · obtain ⟨e0, h⟩ := ite_some' h
    obtain ⟨e1, h⟩ := ite_some' h
    obtain ⟨e2, h⟩ := ite_some' h
    obtain ⟨e3, h⟩ := ite_some' h
    obtain ⟨e4, h⟩ := ite_some' h
    subst e0 e1 e2 e3 e4
    cases h
    exact ⟨rfl, rfl⟩
  · cases h
noncomputable def fam4 : LSpec := famC [7,8,11,12,13,14] SE2 2000 2003 125 dec4 ok4 go4 rd4 F4 mu4 (.exit 2)
theorem lp4_ok : LoopOk J4 ql2 fam4 := famC_ok (vs := vs4) (bs := fun p _ => bs4 p) J4_ok mixed (noLoops_ok _) dec4_ok (by simp) (fun _ _ => rfl) (fun _ _ => rfl) step4 ex4
def go5 (p : P5) (a : A5) : Bool := decide (a.i < p.k)
theorem way5 (p : P5) (a : A5) : T.path [true, true, true, false] (rd5 p a) = some ([(go5 p a, true), (idR p.X p.q a.i, true), (ldR p.X a.i, true), (gI p.X a.i != a.i, false)], (.normal, F5 p ⟨IntKind.wrap .i64 (a.i + 1)⟩)) := by
  obtain ⟨d, u, n, l, W, j, X, q, k⟩ := p
  cases u <;> kernel_rfl
theorem way5x (p : P5) (a : A5) : T.path [false] (rd5 p a) = some ([(go5 p a, false)], (.exit 4, F5 p a)) := by
  obtain ⟨d, u, n, l, W, j, X, q, k⟩ := p
  cases u <;> kernel_rfl
def ok5 (p : P5) (a : A5) : Prop := p.q = p.X.length ∧ p.X.length ≤ 1000 ∧ p.k = p.X.length ∧ (∀ j : Nat, j < p.X.length → p.X[j]? = some (j : Int)) ∧ 0 ≤ a.i ∧ a.i ≤ p.k
def mu5 (p : P5) (a : A5) : Nat := (p.k - a.i).toNat
theorem step5 (p : P5) (a : A5) (h : ok5 p a) (hg : go5 p a = true) : ∃ b, stepC ok5 rd5 F5 mu5 p a b := by
  obtain ⟨h1, h2, h3, h4, h5, h6⟩ := id h
  have hi : a.i < p.k := of_decide_eq_true hg
  obtain ⟨x1, x2⟩ := idR_is (g := p.X) (k := p.q) (i := a.i) h1 h5 (by omega)
  have hw : IntKind.wrap .i64 (a.i + 1) = a.i + 1 := wrap64_in (by omega) (by omega)
  have hv : gI p.X a.i = a.i := by
    unfold gI
    rw [List.getD_eq_getElem?_getD, Nat.zero_add, h4 a.i.toNat (by omega)]
    show ((a.i.toNat : Nat) : Int) = a.i
    omega
  refine ⟨_, T.path_eval (way5 p a) ⟨hg, x1, x2, by rw [hv]; simp, trivial⟩, ⟨h1, h2, h3, h4, ?_, ?_⟩, ?_⟩
  · show 0 ≤ IntKind.wrap .i64 (a.i + 1); rw [hw]; omega
  · show IntKind.wrap .i64 (a.i + 1) ≤ _; rw [hw]; omega
  · show (p.k - IntKind.wrap .i64 (a.i + 1)).toNat < (p.k - a.i).toNat
    rw [hw]; omega
theorem ex5 (p : P5) (a : A5) (h : ok5 p a) (hg : go5 p a = false) : (rd5 p a).eval = some (.exit 4, F5 p a) := T.path_eval (way5x p a) ⟨hg, trivial⟩
def dec5 : List V → List Blk → Option (P5 × A5)
  | [.ptr 1 0, .sub 2001 1 0 j, .sub 2002 1 0 q, .s (.int .i64 k), .s (.int .i64 i)], [.cells t0 [.s (.int .i64 d), .nilIface, .sub 2000 2 0 n], .lst true t1 [.int .i64, .int .i64] l, .lst true t2 [.int .i64] W, .lst true t3 [.int .i64] X] =>
    if t3 = 3 then if t0 = 99 then if t1 = 102 then if t2 = 3 then some (⟨d, none, n, l, W, j, X, q, k⟩, ⟨i⟩) else none else none else none else none
  | [.ptr 1 0, .sub 2001 1 0 j, .sub 2002 1 0 q, .s (.int .i64 k), .s (.int .i64 i)], [.cells t0 [.s (.int .i64 d), .iface ti (.s (.int .i64 u)), .sub 2000 2 0 n], .lst true t1 [.int .i64, .int .i64] l, .lst true t2 [.int .i64] W, .lst true t3 [.int .i64] X] =>
    if ti = 2 then if t3 = 3 then if t0 = 99 then if t1 = 102 then if t2 = 3 then some (⟨d, some u, n, l, W, j, X, q, k⟩, ⟨i⟩) else none else none else none else none else none
  | _, _ => none
theorem dec5_ok (l : List V) (b : List Blk) (d : P5 × A5) (h : dec5 l b = some d) : l = vs5 d.1 d.2 ∧ b = bs5 d.1 := by
  unfold dec5 at h
  split at h
  · obtain ⟨e0, h⟩ := ite_some' h
    obtain ⟨e1, h⟩ := ite_some' h
    obtain ⟨e2, h⟩ := ite_some' h
    obtain ⟨e3, h⟩ := ite_some' h
    subst e0 e1 e2 e3
    cases h
    exact ⟨rfl, rfl⟩
  · obtain ⟨e0, h⟩ := ite_some' h
    obtain ⟨e1, h⟩ := ite_some' h
    obtain ⟨e2, h⟩ := ite_some' h
    obtain ⟨e3, h⟩ := ite_some' h
    obtain ⟨e4, h⟩ := ite_some' h
    subst e0 e1 e2 e3 e4
    cases h
    exact ⟨rfl, rfl⟩
  · cases h
noncomputable def fam5 : LSpec := famC [7,8,13,14,15] SE3 3000 3000 125 dec5 ok5 go5 rd5 F5 mu5 (.exit 4)
theorem lp5_ok : LoopOk J4 ql3 fam5 := famC_ok (vs := vs5) (bs := fun p _ => bs5 p) J4_ok mixed (noLoops_ok _) dec5_ok (by simp) (fun _ _ => rfl) (fun _ _ => rfl) step5 ex5
noncomputable def ellist : List (Nat × LSpec) := [(7, fam3), (16, fam4), (21, fam5)]
theorem el1 : firstReg ql1 = some 7 := by kernel_rfl
theorem el2 : firstReg ql2 = some 16 := by kernel_rfl
theorem el3 : firstReg ql3 = some 21 := by kernel_rfl
theorem ellps_ok : ∀ a ∈ loopsIn (codeOf Try.prog 3), ∀ sp, byReg ellist a = some sp → LoopOk J4 a sp := by
  have e : loopsIn (codeOf Try.prog 3) = [ql1, ql2, ql3] := by kernel_rfl
  rw [e]
  intro a ha
  rcases List.mem_cons.1 ha with h | ha
  · rw [h]; exact byReg_mem el1 rfl lp3_ok
  rcases List.mem_cons.1 ha with h | ha
  · rw [h]; exact byReg_mem el2 rfl lp4_ok
  rcases List.mem_cons.1 ha with h | ha
  · rw [h]; exact byReg_mem el3 rfl lp5_ok
  · cases ha
end Go.Proofs.Ytenifknkahogjaa.Que
