/- Layer 5: the ring's Resize. -/
import Derived.Test.YtheknddbbgjpkaaRinG
namespace Go.Proofs.Ytheknddbbgjpkaa.Rin
open Go.Eng Go.RowKit Mil
set_option linter.unusedVariables false
set_option linter.unusedSimpArgs false
def plcS (s b : Int) : Nat := 0 + Int.toNat (Int.tmod b s)
def bndS (s : Int) (m : Nat) (l : List OB) (b : Int) : Bool := decide (0 ≤ Int.tmod b s) && (decide (Int.tmod b s < m) && decide (plcS s b < l.length))
def rcHd (p : PRc) (a : ARc) : List (Bool × Bool) := [(decide (a.j ≤ p.nw), true), (p.s == 0, false), ((p.n : Int) == 0, false), (bndR p.n p.l a.j, true), (!a.q.contains (plc p.n a.j) && decide (plc p.n a.j < p.l.length), true)]
def rcTl (p : PRc) (a : ARc) : List (Bool × Bool) := [(bndS p.s p.m a.k a.j, true), (decide (plcS p.s a.j < a.k.length), true)]
theorem wayRc0 (p : PRc) (a : ARc) : T.path [true, false, false, true, true, false, true, true] (rdRc p a) = some (rcHd p a ++ ((isBox (ks := KB) p.l (plc p.n a.j), false) :: rcTl p a), (.normal, FRc p ⟨a.q, a.k.set (plcS p.s a.j) none, IntKind.wrap .i64 (a.j + 1)⟩)) := by kernel_rfl
theorem wayRc1 (p : PRc) (a : ARc) : T.path [true, false, false, true, true, true, true, true] (rdRc p a) = some (rcHd p a ++ ((isBox (ks := KB) p.l (plc p.n a.j), true) :: rcTl p a), (.normal, FRc p ⟨plc p.n a.j :: a.q, a.k.set (plcS p.s a.j) (some (boxAt KB p.l (plc p.n a.j))), IntKind.wrap .i64 (a.j + 1)⟩)) := by kernel_rfl
theorem wayRcx (p : PRc) (a : ARc) : T.path [false] (rdRc p a) = some ([(decide (a.j ≤ p.nw), false)], (.exit 0, FRc p a)) := by kernel_rfl
structure okRc (p : PRc) (a : ARc) : Prop where
  rep : ∃ rs, RepR p.n p.nw p.l rs
  m0 : 0 < p.m
  m1 : p.m ≤ 600
  sm : p.s = p.m
  kl : a.k.length = p.m
  j0 : 0 ≤ p.j0
  jn : p.nw - p.n < p.j0
  jm : p.nw - p.m < p.j0
  j1 : p.j0 ≤ p.nw + 1
  j2 : p.j0 ≤ a.j
  j3 : a.j ≤ p.nw + 1
  cp : ∀ b, p.j0 ≤ b → b < a.j → cellR p.m a.k b = cellR p.n p.l b
  un : ∀ b, 0 ≤ b → p.nw - p.m < b → b < p.j0 → cellR p.m a.k b = none
  gn : ∀ r ∈ a.q, ∃ b, p.j0 ≤ b ∧ b < a.j ∧ r = plc p.n b
def goRc (p : PRc) (a : ARc) : Bool := decide (a.j ≤ p.nw)
def muRc (p : PRc) (a : ARc) : Nat := (p.nw + 1 - a.j).toNat
theorem stepRc (p : PRc) (a : ARc) (h : okRc p a) (hg : goRc p a = true) : ∃ b, stepC okRc rdRc FRc muRc p a b := by
  obtain ⟨⟨rs, hr⟩, m0, m1, sm, kl, j0, jn, jm, j1, j2, j3, cp, un, gn⟩ := h
  have hj : a.j ≤ p.nw := of_decide_eq_true hg
  have w1 := hr.w1
  have hn := hr.n0
  have hj0 : 0 ≤ a.j := by omega
  have hw : IntKind.wrap .i64 (a.j + 1) = a.j + 1 := wrap64_in (by omega) (by omega)
  obtain ⟨b1, b2⟩ := bndR_is (l := p.l) hn hj0 hr.ln
  obtain ⟨c1, c2⟩ := bndR_is (l := a.k) m0 hj0 kl
  have hs : plcS p.s a.j = plc p.m a.j := by rw [sm]; rfl
  have hq : (!a.q.contains (plc p.n a.j)) = true := by
    rw [Bool.not_eq_true', List.contains_eq_mem, decide_eq_false_iff_not]
    intro hm
    obtain ⟨b, q1, q2, q3⟩ := gn _ hm
    exact plc_ne hn hj0 (show 0 ≤ b by omega) (by omega) (by omega) (by omega) q3
  have hd : allSay (rcHd p a) := ⟨hg, by rw [beq_eq_false_iff_ne]; omega, by rw [beq_eq_false_iff_ne]; omega, b1, by rw [hq, b2]; rfl, trivial⟩
  have tl : allSay (rcTl p a) := ⟨by rw [sm]; exact c1, by rw [hs]; exact c2, trivial⟩
  have mu : (p.nw + 1 - IntKind.wrap .i64 (a.j + 1)).toNat < (p.nw + 1 - a.j).toNat := by rw [hw]; omega
  have fin : ∀ (y : OB) (q' : List Nat), y = cellR p.n p.l a.j → (∀ r ∈ q', r ∈ a.q ∨ r = plc p.n a.j) → okRc p ⟨q', a.k.set (plcS p.s a.j) y, IntKind.wrap .i64 (a.j + 1)⟩ := by
    intro y q' hy hq'
    rw [hw, hs]
    refine ⟨⟨rs, hr⟩, m0, m1, sm, by show (a.k.set _ y).length = _; rw [List.length_set]; exact kl, j0, jn, jm, j1, by show p.j0 ≤ a.j + 1; omega, by show a.j + 1 ≤ p.nw + 1; omega, ?_, ?_, ?_⟩
    · intro b h1 h2
      have h2 : b < a.j + 1 := h2
      show cellR p.m (a.k.set (plc p.m a.j) y) b = _
      rw [cellR_set m0 hj0 (by omega) kl]
      by_cases e : a.j = b
      · rw [if_pos (by rw [e]), hy, e]
      · rw [if_neg (plc_ne m0 hj0 (by omega) e (by omega) (by omega))]
        exact cp b h1 (by omega)
    · intro b h1 h2 h3
      show cellR p.m (a.k.set (plc p.m a.j) y) b = _
      rw [cellR_set m0 hj0 h1 kl, if_neg (plc_ne m0 hj0 h1 (by omega) (by omega) (by omega))]
      exact un b h1 h2 h3
    · intro r hr'
      show ∃ b, p.j0 ≤ b ∧ b < a.j + 1 ∧ _
      rcases hq' r hr' with q | q
      · obtain ⟨b, q1, q2, q3⟩ := gn r q
        exact ⟨b, q1, by omega, q3⟩
      · exact ⟨a.j, by omega, by omega, q⟩
  cases hx : isBox (ks := KB) p.l (plc p.n a.j) with
  | false =>
    refine ⟨_, T.path_eval (wayRc0 p a) (allSay_append hd ⟨hx, tl⟩), fin none a.q ?_ (fun r h => .inl h), mu⟩
    unfold cellR
    rw [List.getD_eq_getElem?_getD, isBox_false (of_decide_eq_true b2) hx]; rfl
  | true =>
    refine ⟨_, T.path_eval (wayRc1 p a) (allSay_append hd ⟨hx, tl⟩), fin (some (boxAt KB p.l (plc p.n a.j))) _ ?_ (fun r h => (List.mem_cons.1 h).symm), mu⟩
    unfold cellR
    rw [List.getD_eq_getElem?_getD, isBox_true hx]; rfl
theorem exRc (p : PRc) (a : ARc) (h : okRc p a) (hg : goRc p a = false) : (rdRc p a).eval = some (.exit 0, FRc p a) := T.path_eval (wayRcx p a) ⟨hg, trivial⟩
noncomputable def famRc : LSpec := famC [0,1,5,6,7] SRc 150 150 72 decRc okRc goRc rdRc FRc muRc (.exit 0)
theorem lpRc_ok : LoopOk R8 lpRc famRc := famC_ok (vs := vsRc) (bs := bsRc) R8_ok mixed (noLoops_ok _) decRc_ok (by simp) (fun _ _ => rfl) (fun _ _ => rfl) stepRc exRc
noncomputable def resR0 : Eng.Obj := execO R8 (byReg [(rgRc, famRc)]) 52
theorem resR0_ok : ObjOk Try.prog 52 resR0 := execO_loops R8_ok mixed Try.func52 (by kernel_rfl) (by kernel_rfl) (one_lp (by kernel_rfl) rgRc_is lpRc_ok)
noncomputable def resR1 : Eng.Obj := fun args h0 => (resR0 args h0).bind (tidyO 1 h0)
theorem resR1_ok : ObjOk Try.prog 52 resR1 := resR0_ok.tidy 1
def badX (x g : Int) : Bool := bif decide (x < g) then true else decide (600 < x)
theorem badX_false {x g : Int} : badX x g = false ↔ g ≤ x ∧ x ≤ 600 := by
  unfold badX
  by_cases h1 : x < g
  · rw [decide_eq_true h1]; simp; omega
  · rw [decide_eq_false h1]; simp; omega
def mnN (n m : Nat) : Int := if (n : Int) < (m : Int) then n else m
/-- the first bucket that is kept -/
def kpR (n m : Nat) (nw : Int) : Int := if 0 > nw - mnN n m + 1 then 0 else nw - mnN n m + 1
def kp0 (n m : Nat) (nw : Int) : Int := if 0 > IntKind.wrap .i64 (IntKind.wrap .i64 (nw - mnN n m) + 1) then 0 else IntKind.wrap .i64 (IntKind.wrap .i64 (nw - mnN n m) + 1)
noncomputable def resK (w g : Int) (n : Nat) (nw : Int) (ov : Bool) (l : List OB) (x : Int) : List OB := (endW (nxtC okRc goRc rdRc FRc muRc ⟨w, g, n, nw, ov, x, nN x g, nN x g, l, kpR n (nN x g) nw⟩) ⟨[], emptyR (nN x g), kpR n (nN x g) nw⟩).k
theorem res_in {w g : Int} {n : Nat} {nw : Int} {ov : Bool} {l : List OB} {x : Int} (hr : ∃ rs, RepR n nw l rs) (h1 : 1 ≤ g) (h2 : g ≤ x) (h3 : x ≤ 600) : okRc ⟨w, g, n, nw, ov, x, nN x g, nN x g, l, kpR n (nN x g) nw⟩ ⟨[], emptyR (nN x g), kpR n (nN x g) nw⟩ := by
  obtain ⟨n0, n1, _⟩ := nN_bd h1 h2 h3
  obtain ⟨rs, h⟩ := id hr
  have hn := h.n0
  have hw := h.w0
  have hk : 0 ≤ kpR n (nN x g) nw ∧ nw - n < kpR n (nN x g) nw ∧ nw - nN x g < kpR n (nN x g) nw ∧ kpR n (nN x g) nw ≤ nw + 1 := by
    unfold kpR mnN; repeat' split
    all_goals omega
  refine ⟨hr, n0, n1, rfl, List.length_replicate, hk.1, hk.2.1, hk.2.2.1, hk.2.2.2, Int.le_refl _, hk.2.2.2, fun b q1 q2 => ?_, fun b q1 q2 q3 => ?_, fun r h => by cases h⟩
  · have q1 : kpR n (nN x g) nw ≤ b := q1
    have q2 : b < kpR n (nN x g) nw := q2
    omega
  · have := plc_lt n0 q1
    show cellR (nN x g) (emptyR (nN x g)) b = none
    unfold cellR emptyR
    rw [List.getD_eq_getElem?_getD, List.getElem?_replicate, if_pos this]; rfl
theorem res_is {w g : Int} {n : Nat} {nw : Int} {ov : Bool} {l : List OB} {x : Int} {rs : List Rec} (hr : RepR n nw l rs) (h1 : 1 ≤ g) (h2 : g ≤ x) (h3 : x ≤ 600) :
    RepR (nN x g) nw (resK w g n nw ov l x) (rs.filter fun p => decide (nw - n < p.1)) := by
  obtain ⟨k1, k2⟩ := endC stepRc (res_in (w := w) (ov := ov) ⟨rs, hr⟩ h1 h2 h3)
  have n0 := k1.m0
  have n1 := k1.m1
  refine ⟨n0, n1, hr.w0, hr.w1, k1.kl, fun p hp => hr.recs p (List.mem_filter.1 hp).1, Nat.le_trans (List.length_filter_le _ _) hr.len, fun b q1 q2 q3 => ?_⟩
  have k2 : ¬ (endW (nxtC okRc goRc rdRc FRc muRc ⟨w, g, n, nw, ov, x, nN x g, nN x g, l, kpR n (nN x g) nw⟩) ⟨[], emptyR (nN x g), kpR n (nN x g) nw⟩).j ≤ nw := of_decide_eq_false k2
  have q2 : nw - (nN x g : Nat) < b := q2
  by_cases q : kpR n (nN x g) nw ≤ b
  · refine (k1.cp b q (by omega)).trans ?_
    have hb : nw - n < b := by have := k1.jn; exact Int.lt_of_lt_of_le this q
    rw [show cellR n l b = boxO (bk b rs) from hr.cells b q1 hb q3]
    congr 1
    unfold bk
    rw [List.filter_filter]
    apply List.filter_congr
    intro p _
    by_cases e : p.1 = b
    · rw [decide_eq_true e, decide_eq_true (show nw - n < p.1 by omega)]; rfl
    · rw [decide_eq_false e]; rfl
  · refine (k1.un b q1 q2 (by show b < kpR n (nN x g) nw; omega)).trans ?_
    have hb : b ≤ nw - n := by unfold kpR mnN at q; repeat' split at q
                               all_goals omega
    have : bk b (rs.filter fun p => decide (nw - n < p.1)) = [] := by
      unfold bk
      rw [List.filter_filter, List.filter_eq_nil_iff]
      intro p _ hp
      simp only [Bool.and_eq_true, decide_eq_true_eq] at hp
      omega
    rw [this]; rfl
def rzB (x g : Int) (m : Nat) (nw : Int) (ov : Bool) (k : List OB) : Heap := [(0, .cells 138 [iv x, iv g, .sub 42 1 0 m, iv nw, bv ov]), (42, bxB k [] none)]
noncomputable def resS : Eng.Obj
  | [.ptr 0 0, .s (.int .i64 x)], [(0, .cells 138 [.s (.int .i64 w), .s (.int .i64 g), .sub 1 1 0 n, .s (.int .i64 nw), .s (.bool ov)]), (1, .bx 20 141 145 [.int .i64, .int .i64, .bool] l [] none)] =>
    .ite none (decide (0 < n)) (.ite none (badX x g) (.ret (iv 1, ringH w g n nw ov l)) (.ite none (pB (1 ≤ g ∧ ∃ rs, RepR n nw l rs)) (.ret (iv 0, rzB x g (nN x g) nw ov (resK w g n nw ov l x))) .fail)) .fail
  | _, _ => .fail
theorem wayZe (w g : Int) (n : Nat) (nw : Int) (ov : Bool) (l : List OB) (x : Int) : T.path [false, true] (T.anon (resR1 [.ptr 0 0, iv x] (ringH w g n nw ov l))) = some ([(!decide (0 < (n : Int)), false), (badX x g, true)], (iv 1, ringH w g n nw ov l)) := by kernel_rfl
theorem wayZs (w g : Int) (n : Nat) (nw : Int) (ov : Bool) (l : List OB) (x : Int) (m : Nat) (f : Int) (hm : Int.toNat (IntKind.wrap .i64 (Int.tdiv (IntKind.wrap .i64 (IntKind.wrap .i64 (x + g) - 1)) g)) = m) (hf : kp0 n m nw = f) : T.path [false, false, false, true, true] (T.anon (resR1 [.ptr 0 0, iv x] (ringH w g n nw ov l))) =
    some ([(!decide (0 < (n : Int)), false), (badX x g, false), (g == 0, false), (bigN x g, true), (invC okRc ⟨w, g, n, nw, ov, x, m, m, l, f⟩ ⟨[], emptyR m, f⟩, true)], (iv 0, rzB x g m nw ov (endW (nxtC okRc goRc rdRc FRc muRc ⟨w, g, n, nw, ov, x, m, m, l, f⟩) ⟨[], emptyR m, f⟩).k)) := by subst hm; subst hf; kernel_rfl
theorem resS_ok : ObjOk Try.prog 52 resS := resR1_ok.of_eval fun args h r hv => by
  unfold resS at hv
  split at hv
  · rename_i x w g n nw ov l
    obtain ⟨hn, hv⟩ := ite_some hv
    have hn' := of_decide_eq_true hn
    rw [← T.eval_anon (t := resR1 _ _)]
    have a0 : (!decide (0 < (n : Int))) = false := by rw [decide_eq_true (show 0 < (n : Int) by omega)]; rfl
    cases hb : badX x g with
    | true =>
      rw [T.eval, hb] at hv
      obtain rfl := Option.some.inj hv
      exact T.path_eval (wayZe w g n nw ov l x) ⟨a0, hb, trivial⟩
    | false =>
      rw [T.eval, hb] at hv
      obtain ⟨hc, hv⟩ := ite_some hv
      obtain rfl := Option.some.inj hv
      obtain ⟨g1, rs, hr⟩ := pB_ok hc
      obtain ⟨g2, x1⟩ := badX_false.1 hb
      obtain ⟨n0, n1, n2, _⟩ := nN_bd g1 g2 x1
      have w0 := hr.w0
      have w1 := hr.w1
      have hn1 := hr.n1
      have e1 : IntKind.wrap .i64 (x + g) = x + g := wrap64_in (by omega) (by omega)
      have e2 : IntKind.wrap .i64 (x + g - 1) = x + g - 1 := wrap64_in (by omega) (by omega)
      have e3 : IntKind.wrap .i64 (Int.tdiv (x + g - 1) g) = Int.tdiv (x + g - 1) g := wrap64_in (by omega) (by omega)
      have hmn : 0 ≤ mnN n (nN x g) ∧ mnN n (nN x g) ≤ 600 := by unfold mnN; split <;> omega
      have e4 : IntKind.wrap .i64 (nw - mnN n (nN x g)) = nw - mnN n (nN x g) := wrap64_in (by omega) (by omega)
      have e5 : IntKind.wrap .i64 (nw - mnN n (nN x g) + 1) = nw - mnN n (nN x g) + 1 := wrap64_in (by omega) (by omega)
      refine T.path_eval (wayZs w g n nw ov l x (nN x g) (kpR n (nN x g) nw) (by rw [e1, e2, e3]; rfl) (by unfold kp0 kpR; rw [e4, e5])) ⟨a0, hb, by rw [beq_eq_false_iff_ne]; omega, ?_, invC_is (res_in ⟨rs, hr⟩ g1 g2 x1), trivial⟩
      unfold bigN
      rw [e1, e2, e3, decide_eq_true (show 0 ≤ Int.tdiv (x + g - 1) g by omega), decide_eq_true (Int.le_refl _), decide_eq_true (show Int.tdiv (x + g - 1) g ≤ 1000000 by omega)]; rfl
  · cases hv
end Go.Proofs.Ytheknddbbgjpkaa.Rin
