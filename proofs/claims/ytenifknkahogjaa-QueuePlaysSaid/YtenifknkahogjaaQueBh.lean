/- Layer 20: QueuePlays, its loop. -/
import Derived.Test.YtenifknkahogjaaQueBg
namespace Go.Proofs.Ytenifknkahogjaa.Que
open Go.Eng Go.RowKit
set_option linter.unusedVariables false
set_option linter.unusedSimpArgs false
theorem stepQ (p : PQ) (a : AQ) (h : okQ p a) (hg : goQ p a = true) : ∃ b, stepC okQ rdQ FQ muQ p a b := by
  have h0 := h
  obtain ⟨d, u, n, l, m, r, i, d', u'⟩ := a
  obtain ⟨h1, h2, h3, h4, h5, h6, h7, h8, h9, h10, h11, h12, h13⟩ := h
  have h12 : d' = d := h12
  have h13 : u' = u := h13
  rw [h12, h13] at h0 hg ⊢
  have h4 : n = l.length := h4
  have h5 : m = l.length := h5
  have h6 : r = l := h6
  have h7 : (l.length : Int) ≤ i := h7
  have h8 : 0 ≤ i := h8
  have h9 : i ≤ p.k := h9
  have h10 : sortd l := h10
  have h11 : ∀ x ∈ l, in63 x.2 ∧ ∃ t, u = some t ∧ x.2 ≤ t := h11
  have hi : i < (p.k : Int) := of_decide_eq_true hg
  have hj : i.toNat < p.g.length := by omega
  have hl : l.length ≤ 1000 := by omega
  obtain ⟨x1, x2⟩ := idR_is (g := p.g) (k := p.k) (i := i) h1 h8 hi
  have ho : g5w p.g i ∈ p.g := by
    unfold g5w
    rw [List.getD_eq_getElem?_getD, Nat.zero_add, List.getElem?_eq_getElem hj]
    exact List.getElem_mem hj
  obtain ⟨r1, r2⟩ := h3 _ ho
  cases q : decide (kdQ (g5w p.g i) < 3)
  · cases q2 : decide (kdQ (g5w p.g i) < 5)
    · cases q3 : decide (kdQ (g5w p.g i) < 7)
      · have o := fin h0 hi (d := bif dC1 (g5w p.g i) then d else (g5w p.g i).2.2.1) h4 h5 h6 (by show (l.length : Int) ≤ i + 1; omega) h10 h11
        exact ⟨_, T.path_eval (wayQd p ⟨d, u, n, l, m, r, i, d, u⟩ (dC1 (g5w p.g i))) ⟨hg, x1, x2, q, q2, q3, rfl, dC_eq _, by cases dC1 (g5w p.g i) <;> rfl, tail_ok _ u h4 h5 h6 hl⟩, o.1, o.2⟩
      · obtain ⟨i2, k0, s1, s2, s3, s4, s5, s6, s7⟩ := lt_ok (p := pLQ p ⟨d, u, n, l, m, r, i, d, u⟩) (n := n) (l := l) h4 hl
        have oT : okRT (pTQ p ⟨d, u, n, l, m, r, i, d, u⟩) ⟨[], 0, [], 0, 0⟩ := ⟨by show m = r.length; rw [h6]; exact h5, by show r.length ≤ 1000; rw [h6]; exact hl, rfl, rfl, Int.le_refl 0, by show (0 : Int) ≤ (m : Int); omega, rfl, rfl⟩
        have eT : okRT (pTQ p ⟨d, u, n, l, m, r, i, d, u⟩) (eRT (pTQ p ⟨d, u, n, l, m, r, i, d, u⟩)) ∧ goRT (pTQ p ⟨d, u, n, l, m, r, i, d, u⟩) (eRT (pTQ p ⟨d, u, n, l, m, r, i, d, u⟩)) = false := endC stepRT oT
        obtain ⟨⟨-, -, t3, t4, t5, t6, t7, t8⟩, t9⟩ := eT
        have t9' : ¬ (eRT (pTQ p ⟨d, u, n, l, m, r, i, d, u⟩)).i < (m : Int) := of_decide_eq_false t9
        have t6' : (eRT (pTQ p ⟨d, u, n, l, m, r, i, d, u⟩)).i ≤ (m : Int) := t6
        have hti : (eRT (pTQ p ⟨d, u, n, l, m, r, i, d, u⟩)).i.toNat = l.length := by omega
        obtain ⟨f1, f2⟩ := late_split (now := (g5w p.g i).2.2.2.1) (age := (g5w p.g i).2.2.2.2) (k := k0) h10 (fun x hx => (h11 x hx).1) r1 r2 s6 s7
        have t7' : (eRT (pTQ p ⟨d, u, n, l, m, r, i, d, u⟩)).W = (l.take k0).map (·.1) := by
          rw [t7, ← f1, hti]; show ((r.take l.length).filter _).map _ = _
          rw [h6, List.take_length]; rfl
        have t8' : (eRT (pTQ p ⟨d, u, n, l, m, r, i, d, u⟩)).X = l.drop k0 := by
          rw [t8, ← f2, hti]; show (r.take l.length).filter _ = _
          rw [h6, List.take_length]; rfl
        have hd : (l.drop k0).length = l.length - k0 := List.length_drop ..
        have lW : ((l.take k0).map (·.1)).length = k0 := by rw [List.length_map, List.length_take]; omega
        have e1 : (eL (pLQ p ⟨d, u, n, l, m, r, i, d, u⟩) n l).n = (eL (pLQ p ⟨d, u, n, l, m, r, i, d, u⟩) n l).l.length := by rw [s4, s2, hd]
        have e2 : (eRT (pTQ p ⟨d, u, n, l, m, r, i, d, u⟩)).k = (eL (pLQ p ⟨d, u, n, l, m, r, i, d, u⟩) n l).l.length := by rw [t4, t8', s2]
        have e3 : (eRT (pTQ p ⟨d, u, n, l, m, r, i, d, u⟩)).X = (eL (pLQ p ⟨d, u, n, l, m, r, i, d, u⟩) n l).l := by rw [t8', s2]
        have e4 : (eL (pLQ p ⟨d, u, n, l, m, r, i, d, u⟩) n l).l.length ≤ l.length := by rw [s2, hd]; omega
        have o := fin h0 hi (d := d) (u := u) e1 e2 e3 (by show (_ : Int) ≤ i + 1; omega) (by rw [s2]; exact List.Pairwise.sublist (List.drop_sublist k0 l) h10) (by rw [s2]; exact fun x hx => h11 x (List.mem_of_mem_drop hx))
        exact ⟨_, T.path_eval (wayQl p ⟨d, u, n, l, m, r, i, d, u⟩) ⟨hg, x1, x2, q, q2, q3, i2, invC_is oT, allSay_append (intC_ok (by rw [s3, t7']) (by rw [s5, s3, lW]) t3 (by rw [s3, lW]; omega)) (tail_ok d u e1 e2 e3 (Nat.le_trans e4 hl))⟩, o.1, o.2⟩
    · by_cases e : l.length = 0
      · have o := fin h0 hi (d := d) h4 h5 h6 (by show (l.length : Int) ≤ i + 1; omega) h10 h11
        exact ⟨_, T.path_eval (wayQt1 p ⟨d, u, n, l, m, r, i, d, u⟩) ⟨hg, x1, x2, q, q2, by rw [beq_iff_eq]; show (n : Int) = 0; omega, by rw [beq_iff_eq]; show (m : Int) = 0; omega, rfl, tail_ok d u h4 h5 h6 hl⟩, o.1, o.2⟩
      · obtain ⟨y1, y2⟩ := idR_is (g := l) (k := n) (i := 0) h4 (Int.le_refl 0) (by omega)
        have sl : slC n l = true := by
          unfold slC
          rw [decide_eq_true (show (1 : Int) ≤ (n : Int) by omega), decide_eq_true (Int.le_refl (n : Int)), decide_eq_true (show n ≤ l.length by omega)]; rfl
        have htd : td n l = l.drop 1 := by
          unfold td
          rw [show Int.toNat 1 = 1 from rfl, Int.toNat_natCast, List.take_of_length_le (by rw [List.length_drop]; omega)]
        have hnm : m = n := by omega
        have k1 : tn n = (td n l).length := by rw [htd, List.length_drop]; unfold tn; rw [Int.toNat_natCast, show Int.toNat 1 = 1 from rfl]; omega
        have o := fin h0 hi (d := d) (u := u) (n := tn n) (l := td n l) (m := tn m) (r := td m r) k1 (by rw [hnm]; exact k1) (by rw [hnm, h6]) (by rw [htd, List.length_drop]; show (_ : Int) ≤ i + 1; omega) (by rw [htd]; exact List.Pairwise.sublist (List.drop_sublist 1 l) h10) (by rw [htd]; exact fun x hx => h11 x (List.mem_of_mem_drop hx))
        exact ⟨_, T.path_eval (wayQt2 p ⟨d, u, n, l, m, r, i, d, u⟩) ⟨hg, x1, x2, q, q2, by rw [beq_eq_false_iff_ne]; show (n : Int) ≠ 0; omega, y1, y2, sl, by rw [beq_eq_false_iff_ne]; show (m : Int) ≠ 0; omega, by show idR r m 0 = true; rw [hnm, h6]; exact y1, by show ldR r 0 = true; rw [h6]; exact y2, by show slC m r = true; rw [hnm, h6]; exact sl,
          by show (bif (g2w l 0).1 != (g2w r 0).1 then true else !(true == true)) = false; rw [h6]; simp, tail_ok d u k1 (by show tn m = _; rw [hnm]; exact k1) (by show td m r = td n l; rw [hnm, h6]) (by show (td n l).length ≤ 1000; rw [htd, List.length_drop]; omega)⟩, o.1, o.2⟩
  · cases c : putC (g5w p.g i) u
    · by_cases dd : d ≤ (n : Int)
      · have o := fin h0 hi (d := d) h4 h5 h6 (by show (l.length : Int) ≤ i + 1; omega) h10 h11
        exact ⟨_, T.path_eval (wayQp2 p ⟨d, u, n, l, m, r, i, d, u⟩) ⟨hg, x1, x2, q, c, decide_eq_true dd, c, decide_eq_true (by show d ≤ (m : Int); omega), rfl, tail_ok d u h4 h5 h6 hl⟩, o.1, o.2⟩
      · have hnm : m = n := by omega
        have ht : List.take n l = l := by rw [h4, List.take_length]
        have k1 : n + [wq (g5w p.g i)].length = (List.take n l ++ [wq (g5w p.g i)]).length := by rw [ht, List.length_append]; omega
        have hle : ∀ x ∈ l, x.2 ≤ (g5w p.g i).2.2.2.1 := by
          intro x hx
          obtain ⟨t, e, ht⟩ := (h11 x hx).2
          rw [e] at c
          unfold putC at c
          cases z : decide ((g5w p.g i).2.1 < 0)
          · rw [z] at c
            have : ¬ (g5w p.g i).2.2.2.1 < t := of_decide_eq_false c
            omega
          · rw [z] at c; cases c
        have hs : sortd (l ++ [wq (g5w p.g i)]) := List.pairwise_append.2 ⟨h10, List.pairwise_singleton _ _, fun x hx y hy => by rw [List.mem_singleton.1 hy]; exact hle x hx⟩
        have hb : ∀ x ∈ l ++ [wq (g5w p.g i)], in63 x.2 ∧ ∃ t, some (g5w p.g i).2.2.2.1 = some t ∧ x.2 ≤ t := by
          intro x hx
          rcases List.mem_append.1 hx with y | y
          · exact ⟨(h11 x y).1, _, rfl, hle x y⟩
          · rw [List.mem_singleton.1 y]; exact ⟨r1, _, rfl, Int.le_refl _⟩
        have hlen : (List.take n l ++ [wq (g5w p.g i)]).length = l.length + 1 := by rw [ht, List.length_append]; rfl
        have o := fin h0 hi (d := d) (u := some (g5w p.g i).2.2.2.1) (n := n + [wq (g5w p.g i)].length) (l := List.take n l ++ [wq (g5w p.g i)]) (m := m + [wq (g5w p.g i)].length) (r := List.take m r ++ [wq (g5w p.g i)]) k1 (by rw [hnm]; exact k1) (by rw [hnm, h6]) (by rw [hlen]; show (_ : Int) ≤ i + 1; omega) (by rw [ht]; exact hs) (by rw [ht]; exact hb)
        exact ⟨_, T.path_eval (wayQp3 p ⟨d, u, n, l, m, r, i, d, u⟩) ⟨hg, x1, x2, q, c, decide_eq_false dd, apC_is _ h4 hl, c, decide_eq_false (by show ¬ d ≤ (m : Int); omega), apC_is _ (by show m = r.length; rw [h6]; exact h5) (by show r.length ≤ 1000; rw [h6]; exact hl), rfl,
          tail_ok d _ k1 (by show m + _ = _; rw [hnm]; exact k1) (by show List.take m r ++ _ = List.take n l ++ _; rw [hnm, h6]) (by rw [hlen]; omega)⟩, o.1, o.2⟩
    · have o := fin h0 hi (d := d) h4 h5 h6 (by show (l.length : Int) ≤ i + 1; omega) h10 h11
      exact ⟨_, T.path_eval (wayQp1 p ⟨d, u, n, l, m, r, i, d, u⟩) ⟨hg, x1, x2, q, c, c, rfl, tail_ok d u h4 h5 h6 hl⟩, o.1, o.2⟩
noncomputable def oQ (u u' : Bool) (p : PQ) (a : AQ) : T (Ex × St) := .ret (.exit 0, FQ p ⟨a.d, (bif u then some (a.u.getD 0) else none), a.n, a.l, a.n', a.l', a.i, a.d', (bif u' then some (a.u'.getD 0) else none)⟩)
noncomputable def outQ (p : PQ) (a : AQ) : T (Ex × St) := .ite none a.u.isSome (.ite none a.u'.isSome (oQ true true p a) (oQ true false p a)) (.ite none a.u'.isSome (oQ false true p a) (oQ false false p a))
theorem exQ (p : PQ) (a : AQ) (h : okQ p a) (hg : goQ p a = false) (r : Ex × St) (hr : (outQ p a).eval = some r) : r.1 ≠ .normal ∧ (rdQ p a).eval = some r := by
  have hx := T.path_eval (wayQx p a) ⟨hg, trivial⟩
  obtain ⟨d, u, n, l, m, s, i, d', u'⟩ := a
  cases u <;> cases u' <;>
  · obtain rfl := Option.some.inj hr
    exact ⟨by simp, hx⟩
def decB : Blk → Option (Int × Option Int × Nat)
  | .cells t1 [.s (.int .i64 d), .nilIface, .sub 1000 2 0 n] => if t1 = 99 then some (d, none, n) else none
  | .cells t1 [.s (.int .i64 d), .iface ti (.s (.int .i64 u)), .sub 1000 2 0 n] => if ti = 2 then if t1 = 99 then some (d, some u, n) else none else none
  | _ => none
theorem decB_ok (b : Blk) (x : Int × Option Int × Nat) (h : decB b = some x) : b = qK 1000 x.1 x.2.1 x.2.2 := by
  unfold decB at h
  split at h
  · obtain ⟨e0, h⟩ := ite_some' h
    subst e0
    cases h; rfl
  · obtain ⟨e0, h⟩ := ite_some' h
    obtain ⟨e1, h⟩ := ite_some' h
    subst e0 e1
    cases h; rfl
  · cases h
def decR : Blk → Option (Int × Option Int × Nat)
  | .cells t1 [.s (.int .i64 d), .sub 1001 2 0 m, .s (.int .i64 t), .s (.bool true)] => if t1 = 108 then some (d, some t, m) else none
  | .cells t1 [.s (.int .i64 d), .sub 1001 2 0 m, .s (.int .i64 t), .s (.bool false)] => if t = 0 then if t1 = 108 then some (d, none, m) else none else none
  | _ => none
theorem decR_ok (b : Blk) (x : Int × Option Int × Nat) (h : decR b = some x) : b = rB 1001 x.1 x.2.2 x.2.1 := by
  unfold decR at h
  split at h
  · obtain ⟨e0, h⟩ := ite_some' h
    subst e0
    cases h; rfl
  · obtain ⟨e0, h⟩ := ite_some' h
    obtain ⟨e1, h⟩ := ite_some' h
    subst e0 e1
    cases h; rfl
  · cases h
def decQ : List V → List Blk → Option (PQ × AQ)
  | [.sub 0 5 0 k, .ptr 1 0, .ptr 9 0, .s (.int .i64 i)], [.lst false t0 [.int .i64, .int .i64, .int .i64, .int .i64, .int .i64] g, B, .lst true t2 [.int .i64, .int .i64] l, R, .lst true t4 [.int .i64, .int .i64] r] =>
    if t0 = 37 then if t2 = 102 then if t4 = 110 then (decB B).bind fun x => (decR R).bind fun y => some (⟨g, k⟩, ⟨x.1, x.2.1, x.2.2, l, y.2.2, r, i, y.1, y.2.1⟩) else none else none else none
  | _, _ => none
theorem decQ_ok (l : List V) (b : List Blk) (d : PQ × AQ) (h : decQ l b = some d) : l = vsQ d.1 d.2 ∧ b = bsQ d.1 d.2 := by
  unfold decQ at h
  split at h
  · obtain ⟨e0, h⟩ := ite_some' h
    obtain ⟨e1, h⟩ := ite_some' h
    obtain ⟨e2, h⟩ := ite_some' h
    obtain ⟨x, hx, h3⟩ := Option.bind_eq_some_iff.1 h
    obtain ⟨y, hy, h4⟩ := Option.bind_eq_some_iff.1 h3
    have q1 := decB_ok _ _ hx
    have q2 := decR_ok _ _ hy
    clear h h3
    subst e0 e1 e2 q1 q2
    cases h4
    exact ⟨rfl, rfl⟩
  · cases h
noncomputable def famQ : LSpec := famD [1,5,6,7] SQ 1000 1002 114 decQ okQ goQ rdQ FQ muQ outQ
theorem qpl_ok : LoopOk J6 qpl famQ := famD_ok (vs := vsQ) (bs := bsQ) J6_ok mixed (noLoops_ok _) decQ_ok (fun _ _ => rfl) (fun _ _ => rfl) stepQ exQ
noncomputable def qpReg : Nat := (firstReg qpl).getD 0
theorem qp_reg : firstReg qpl = some qpReg := by kernel_rfl
end Go.Proofs.Ytenifknkahogjaa.Que
