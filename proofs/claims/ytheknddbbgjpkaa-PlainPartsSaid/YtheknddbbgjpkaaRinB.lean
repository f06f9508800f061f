/- Layer 5: the ring's reach. -/
import Derived.Test.YtheknddbbgjpkaaRinA
namespace Go.Proofs.Ytheknddbbgjpkaa.Rin
open Go.Eng Go.RowKit Mil
set_option linter.unusedVariables false
set_option linter.unusedSimpArgs false
/-- where bucket b stands -/
def plc (n : Nat) (b : Int) : Nat := 0 + Int.toNat (Int.tmod b n)
def cellR (n : Nat) (l : List OB) (b : Int) : OB := l.getD (plc n b) none
def bndR (n : Nat) (l : List OB) (b : Int) : Bool := decide (0 ≤ Int.tmod b n) && (decide (Int.tmod b n < n) && decide (plc n b < l.length))
theorem plc_lt {n : Nat} {b : Int} (hn : 0 < n) (hb : 0 ≤ b) : plc n b < n := by
  unfold plc
  have := Int.tmod_lt_of_pos b (show (0 : Int) < n by omega)
  have := Int.tmod_nonneg (n : Int) hb
  omega
theorem plc_ne {n : Nat} {b c : Int} (hn : 0 < n) (hb : 0 ≤ b) (hc : 0 ≤ c) (h : b ≠ c) (h1 : b - c < n) (h2 : c - b < n) : plc n b ≠ plc n c := by
  unfold plc
  intro e
  have a1 := Int.tmod_nonneg (n : Int) hb
  have a2 := Int.tmod_nonneg (n : Int) hc
  have e1 : Int.tmod b n = Int.tmod c n := by omega
  rw [Int.tmod_eq_emod_of_nonneg hb, Int.tmod_eq_emod_of_nonneg hc] at e1
  have hd : (n : Int) ∣ b - c := Int.dvd_of_emod_eq_zero (Int.emod_eq_emod_iff_emod_sub_eq_zero.1 e1)
  obtain ⟨k, hk⟩ := hd
  have : k = 0 := by
    rcases Int.lt_trichotomy k 0 with q | q | q
    · have : (n : Int) * k ≤ (n : Int) * (-1) := Int.mul_le_mul_of_nonneg_left (by omega) (by omega)
      omega
    · exact q
    · have : (n : Int) * 1 ≤ (n : Int) * k := Int.mul_le_mul_of_nonneg_left (by omega) (by omega)
      omega
  subst this
  omega
theorem bndR_is {n : Nat} {l : List OB} {b : Int} (hn : 0 < n) (hb : 0 ≤ b) (hl : l.length = n) : bndR n l b = true ∧ decide (plc n b < l.length) = true := by
  have h1 := plc_lt hn hb
  have h2 := Int.tmod_lt_of_pos b (show (0 : Int) < n by omega)
  have h3 := Int.tmod_nonneg (n : Int) hb
  unfold bndR
  rw [decide_eq_true h3, decide_eq_true h2, decide_eq_true (show plc n b < l.length by omega)]
  exact ⟨rfl, rfl⟩
theorem cellR_set {n : Nat} {l : List OB} {b c : Int} {x : OB} (hn : 0 < n) (hb : 0 ≤ b) (hc : 0 ≤ c) (hl : l.length = n) : cellR n (l.set (plc n b) x) c = if plc n b = plc n c then x else cellR n l c := by
  unfold cellR
  have h1 := plc_lt hn hb
  by_cases e : plc n b = plc n c
  · rw [if_pos e, ← e, List.getD_eq_getElem?_getD, List.getElem?_set_self (by omega)]; rfl
  · rw [if_neg e, List.getD_eq_getElem?_getD, List.getD_eq_getElem?_getD, List.getElem?_set_ne e]
theorem wayRa (p : PRa) (a : ARa) : T.path [true, false, true, true] (rdRa p a) = some ([(decide (a.j ≤ p.i), true), ((p.n : Int) == 0, false), (bndR p.n a.l a.j, true), (decide (plc p.n a.j < a.l.length), true)], (.normal, FRa p ⟨a.l.set (plc p.n a.j) none, IntKind.wrap .i64 (a.j + 1)⟩)) := by kernel_rfl
theorem wayRax (p : PRa) (a : ARa) : T.path [false] (rdRa p a) = some ([(decide (a.j ≤ p.i), false)], (.exit 0, FRa p a)) := by kernel_rfl
/-- the first bucket that is emptied -/
def loR (n : Nat) (nw i : Int) : Int := if i - n + 1 > nw + 1 then i - n + 1 else nw + 1
structure okRa (p : PRa) (a : ARa) : Prop where
  n0 : 0 < p.n
  n1 : p.n ≤ 600
  w0 : -1 ≤ p.nw
  w1 : p.nw ≤ 1099511627776
  i0 : 0 ≤ p.i
  i1 : p.i ≤ 1099511627776
  ln : a.l.length = p.n
  j0 : loR p.n p.nw p.i ≤ a.j
  j1 : a.j ≤ max (p.i + 1) (loR p.n p.nw p.i)
  emp : ∀ b, loR p.n p.nw p.i ≤ b → b < a.j → cellR p.n a.l b = none
  old : ∀ b, 0 ≤ b → p.i - p.n < b → b ≤ p.nw → cellR p.n a.l b = cellR p.n p.l0 b
def goRa (p : PRa) (a : ARa) : Bool := decide (a.j ≤ p.i)
def muRa (p : PRa) (a : ARa) : Nat := (p.i + 1 - a.j).toNat
theorem loR_ge {n : Nat} {nw i : Int} : nw + 1 ≤ loR n nw i ∧ i - n + 1 ≤ loR n nw i := by unfold loR; split <;> omega
theorem stepRa (p : PRa) (a : ARa) (h : okRa p a) (hg : goRa p a = true) : ∃ b, stepC okRa rdRa FRa muRa p a b := by
  obtain ⟨n0, n1, w0, w1, i0, i1, ln, j0, j1, he, ho⟩ := h
  have hj : a.j ≤ p.i := of_decide_eq_true hg
  have hlo := loR_ge (n := p.n) (nw := p.nw) (i := p.i)
  have hj0 : 0 ≤ a.j := by omega
  have hw : IntKind.wrap .i64 (a.j + 1) = a.j + 1 := wrap64_in (by omega) (by omega)
  obtain ⟨b1, b2⟩ := bndR_is (l := a.l) n0 hj0 ln
  refine ⟨_, T.path_eval (wayRa p a) ⟨hg, by rw [beq_eq_false_iff_ne]; omega, b1, b2, trivial⟩, ⟨n0, n1, w0, w1, i0, i1, by show (a.l.set _ none).length = _; rw [List.length_set]; exact ln, ?_, ?_, ?_, ?_⟩, ?_⟩
  · show _ ≤ IntKind.wrap .i64 (a.j + 1); rw [hw]; omega
  · show IntKind.wrap .i64 (a.j + 1) ≤ _; rw [hw]; omega
  · show ∀ b, _ → b < IntKind.wrap .i64 (a.j + 1) → cellR p.n (a.l.set _ none) b = none
    rw [hw]
    intro b h1 h2
    rw [cellR_set n0 hj0 (by omega) ln]
    by_cases e : plc p.n a.j = plc p.n b
    · rw [if_pos e]
    · rw [if_neg e]
      have : b ≠ a.j := fun q => e (by rw [q])
      exact he b h1 (by omega)
  · show ∀ b, _ → _ → _ → cellR p.n (a.l.set _ none) b = _
    intro b h1 h2 h3
    rw [cellR_set n0 hj0 h1 ln, if_neg (plc_ne n0 hj0 h1 (by omega) (by omega) (by omega))]
    exact ho b h1 h2 h3
  · show (p.i + 1 - IntKind.wrap .i64 (a.j + 1)).toNat < (p.i + 1 - a.j).toNat
    rw [hw]; omega
theorem exRa (p : PRa) (a : ARa) (h : okRa p a) (hg : goRa p a = false) : (rdRa p a).eval = some (.exit 0, FRa p a) := T.path_eval (wayRax p a) ⟨hg, trivial⟩
noncomputable def famRa : LSpec := famC [0,1,4] SRa 100 100 39 decRa okRa goRa rdRa FRa muRa (.exit 0)
theorem lpRa_ok : LoopOk R3 lpRa famRa := famC_ok (vs := vsRa) (bs := bsRa) R3_ok mixed (noLoops_ok _) decRa_ok (by simp) (fun _ _ => rfl) (fun _ _ => rfl) stepRa exRa
/-- the cells behind it -/
noncomputable def rcA (w g : Int) (n : Nat) (nw : Int) (ov : Bool) (l : List OB) (i : Int) : ARa := endW (nxtC okRa goRa rdRa FRa muRa ⟨w, g, n, nw, ov, i, l⟩) ⟨l, loR n nw i⟩
theorem rc_ok {w g : Int} {n : Nat} {nw : Int} {ov : Bool} {l : List OB} {i : Int} (n0 : 0 < n) (n1 : n ≤ 600) (w0 : -1 ≤ nw) (w1 : nw ≤ 1099511627776) (i0 : 0 ≤ i) (i1 : i ≤ 1099511627776) (hl : l.length = n) :
    okRa ⟨w, g, n, nw, ov, i, l⟩ ⟨l, loR n nw i⟩ ∧ (rcA w g n nw ov l i).l.length = n ∧ (∀ b, 0 ≤ b → i - n < b → b ≤ nw → cellR n (rcA w g n nw ov l i).l b = cellR n l b) ∧ (∀ b, i - n < b → nw < b → b ≤ i → cellR n (rcA w g n nw ov l i).l b = none) := by
  have h0 : okRa ⟨w, g, n, nw, ov, i, l⟩ ⟨l, loR n nw i⟩ := ⟨n0, n1, w0, w1, i0, i1, hl, Int.le_refl _, Int.le_max_right _ _, fun b h1 h2 => by have h1 : loR n nw i ≤ b := h1; have h2 : b < loR n nw i := h2; omega, fun b _ _ _ => rfl⟩
  obtain ⟨h1, h2⟩ := endC stepRa h0
  refine ⟨h0, h1.ln, fun b q1 q2 q3 => h1.old b q1 q2 q3, fun b q1 q2 q3 => h1.emp b ?_ ?_⟩
  · show loR n nw i ≤ b
    unfold loR; split <;> omega
  · have : ¬ (endW (nxtC okRa goRa rdRa FRa muRa ⟨w, g, n, nw, ov, i, l⟩) ⟨l, loR n nw i⟩).j ≤ i := of_decide_eq_false h2
    omega
noncomputable def reachR0 : Eng.Obj := execO R3 (byReg [(rgRa, famRa)]) 91
theorem reachR0_ok : ObjOk Try.prog 91 reachR0 := execO_loops R3_ok mixed Try.func91 (by kernel_rfl) (by kernel_rfl) (one_lp (by kernel_rfl) rgRa_is lpRa_ok)
def gdR (n : Nat) (nw : Int) (l : List OB) (i : Int) : Bool := decide (0 < n) && (decide (n ≤ 600) && (decide (-1 ≤ nw) && (decide (nw ≤ 1099511627776) && (decide (0 ≤ i) && (decide (i ≤ 1099511627776) && decide (l.length = n))))))
theorem gdR_iff {n : Nat} {nw : Int} {l : List OB} {i : Int} : gdR n nw l i = true ↔ 0 < n ∧ n ≤ 600 ∧ -1 ≤ nw ∧ nw ≤ 1099511627776 ∧ 0 ≤ i ∧ i ≤ 1099511627776 ∧ l.length = n := by simp [gdR]
def mxR (nw i : Int) : Int := if i > nw then i else nw
noncomputable def reachS : Eng.Obj
  | [.ptr 0 0, .s (.int .i64 i)], [(0, .cells 138 [.s (.int .i64 w), .s (.int .i64 g), .sub 1 1 0 n, .s (.int .i64 nw), .s (.bool ov)]), (1, .bx 20 141 145 [.int .i64, .int .i64, .bool] l [] none)] =>
    .ite none (gdR n nw l i) (.ret (.tup [], [(0, ringB w g n (mxR nw i) ov), (1, bxB (rcA w g n nw ov l i).l [] none)])) .fail
  | _, _ => .fail
def lo0 (n : Nat) (nw i : Int) : Int := if IntKind.wrap .i64 (IntKind.wrap .i64 (i - n) + 1) > IntKind.wrap .i64 (nw + 1) then IntKind.wrap .i64 (IntKind.wrap .i64 (i - n) + 1) else IntKind.wrap .i64 (nw + 1)
theorem wayReach (w g : Int) (n : Nat) (nw : Int) (ov : Bool) (l : List OB) (i j : Int) (hj : lo0 n nw i = j) : T.path [true] (T.anon (reachR0 [.ptr 0 0, iv i] (ringH w g n nw ov l))) = some ([(invC okRa ⟨w, g, n, nw, ov, i, l⟩ ⟨l, j⟩, true)],
    (.tup [], [(0, ringB w g n (mxR nw i) ov), (1, bxB (endW (nxtC okRa goRa rdRa FRa muRa ⟨w, g, n, nw, ov, i, l⟩) ⟨l, j⟩).l [] none)])) := by
  subst hj; kernel_rfl
theorem reachS_ok : ObjOk Try.prog 91 reachS := reachR0_ok.of_eval fun args h v hv => by
  unfold reachS at hv
  split at hv
  · rename_i i w g n nw ov l
    obtain ⟨hc, hv⟩ := ite_some hv
    obtain ⟨n0, n1, w0, w1, i0, i1, hl⟩ := gdR_iff.1 hc
    obtain rfl := Option.some.inj hv
    rw [← T.eval_anon (t := reachR0 _ _)]
    have e1 : IntKind.wrap .i64 (i - n) = i - n := wrap64_in (by omega) (by omega)
    have e2 : IntKind.wrap .i64 (i - n + 1) = i - n + 1 := wrap64_in (by omega) (by omega)
    have e3 : IntKind.wrap .i64 (nw + 1) = nw + 1 := wrap64_in (by omega) (by omega)
    exact T.path_eval (wayReach w g n nw ov l i (loR n nw i) (by unfold lo0 loR; rw [e1, e2, e3])) ⟨invC_is (rc_ok n0 n1 w0 w1 i0 i1 hl).1, trivial⟩
  · cases hv
end Go.Proofs.Ytheknddbbgjpkaa.Rin
