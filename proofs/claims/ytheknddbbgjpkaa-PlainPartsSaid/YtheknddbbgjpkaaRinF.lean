/- Layer 5: Sum, Mean, Size, Over. -/
import Derived.Test.YtheknddbbgjpkaaRinE
namespace Go.Proofs.Ytheknddbbgjpkaa.Rin
open Go.Eng Go.RowKit Mil
set_option linter.unusedVariables false
set_option linter.unusedSimpArgs false
open Classical in
noncomputable def pB (p : Prop) : Bool := decide p
theorem pB_is {p : Prop} (h : p) : pB p = true := by unfold pB; exact @decide_eq_true _ (Classical.propDecidable _) h
theorem pB_ok {p : Prop} (h : pB p = true) : p := by unfold pB at h; exact @of_decide_eq_true _ (Classical.propDecidable _) h
/-- the first bucket that is summed -/
def frR (n : Nat) (nw la : Int) : Int := if 0 > mxR la nw - n + 1 then 0 else mxR la nw - n + 1
def fr0 (n : Nat) (nw la : Int) : Int := if 0 > IntKind.wrap .i64 (IntKind.wrap .i64 (mxR la nw - n) + 1) then 0 else IntKind.wrap .i64 (IntKind.wrap .i64 (mxR la nw - n) + 1)
noncomputable def sumE (w g : Int) (n : Nat) (nw : Int) (ov : Bool) (l : List OB) (la : Int) : ARb := endW (nxtC okRb goRb rdRb FRb muRb ⟨w, g, n, nw, ov, la, l, frR n nw la⟩) ⟨l, 0, 0, false, frR n nw la⟩
theorem sum_in {w g : Int} {n : Nat} {nw : Int} {ov : Bool} {l : List OB} {la : Int} (hr : ∃ rs, RepR n nw l rs) (h0 : 0 ≤ la) (h1 : la ≤ 9223372036854775807) : okRb ⟨w, g, n, nw, ov, la, l, frR n nw la⟩ ⟨l, 0, 0, false, frR n nw la⟩ := by
  obtain ⟨rs, h⟩ := hr
  have n0 := h.n0
  have w1 := h.w1
  obtain ⟨m1, m2, m3⟩ := mxR_ge (nw := la) (b := nw)
  refine ⟨⟨rs, h⟩, h0, h1, ?_, ?_, ?_, Int.le_refl _, Int.le_max_left _ _, rfl, fun rs hr => ?_⟩
  · show 0 ≤ frR n nw la; unfold frR; split <;> omega
  · show nw - n < frR n nw la; unfold frR; split <;> omega
  · show frR n nw la ≤ 9223372036854775807; unfold frR; split <;> omega
  · show _ = smV (frR n nw la) (frR n nw la) rs
    unfold smV
    rw [wn_self]; rfl
theorem wn_up {lo a b : Int} {rs : List Rec} (h : ∀ p ∈ rs, p.1 < a ↔ p.1 < b) : wn lo a rs = wn lo b rs := by
  unfold wn
  apply List.filter_congr
  intro p hp
  rw [decide_eq_decide.2 (h p hp)]
theorem sum_is {w g : Int} {n : Nat} {nw : Int} {ov : Bool} {l : List OB} {la : Int} {rs : List Rec} (h : RepR n nw l rs) (h0 : 0 ≤ la) (h1 : la ≤ 9223372036854775807) :
    (sumE w g n nw ov l la).l = l ∧ (((sumE w g n nw ov l la).s, (sumE w g n nw ov l la).c, (sumE w g n nw ov l la).k) : RB) = smV (frR n nw la) (la + 1) rs := by
  obtain ⟨k1, k2⟩ := endC stepRb (sum_in (w := w) (g := g) (ov := ov) ⟨rs, h⟩ h0 h1)
  refine ⟨k1.al, (k1.sum rs h).trans ?_⟩
  have j3 : frR n nw la ≤ (sumE w g n nw ov l la).j := k1.j3
  have j4 : (sumE w g n nw ov l la).j ≤ max (frR n nw la) (mnR la nw + 1) := k1.j4
  have k2 : ¬ (sumE w g n nw ov l la).j ≤ mnR la nw := of_decide_eq_false k2
  show smV (frR n nw la) (sumE w g n nw ov l la).j rs = _
  generalize (sumE w g n nw ov l la).j = j at *
  obtain ⟨m1, m2⟩ := mnR_le (a := la) (b := nw)
  by_cases q : frR n nw la ≤ mnR la nw + 1
  · have e : j = mnR la nw + 1 := by omega
    subst e
    unfold smV
    rw [wn_up (a := mnR la nw + 1) (b := la + 1)]
    intro p hp
    have := (h.recs p hp).2.1
    unfold mnR
    split <;> omega
  · have e : j = frR n nw la := by omega
    subst e
    unfold smV
    rw [wn_self]
    have : wn (frR n nw la) (la + 1) rs = [] := by
      unfold wn
      rw [List.filter_eq_nil_iff]
      intro p hp hq
      have := (h.recs p hp).2.1
      simp only [Bool.and_eq_true, decide_eq_true_eq] at hq
      unfold mnR at q
      split at q <;> omega
    rw [this]
def gdS (g t : Int) (n : Nat) (nw : Int) (l : List OB) : Prop := 1 ≤ g ∧ t ≤ 9223372036854775807 ∧ ∃ rs, RepR n nw l rs
noncomputable def sumS : Eng.Obj
  | [.ptr 0 0, .s (.int .i64 t)], [(0, .cells 138 [.s (.int .i64 w), .s (.int .i64 g), .sub 1 1 0 n, .s (.int .i64 nw), .s (.bool ov)]), (1, .bx 20 141 145 [.int .i64, .int .i64, .bool] l [] none)] =>
    .ite none (decide (0 < n)) (.ite none (decide (t < 0)) (.ret (.tup [iv 0, iv 0], ringH w g n nw ov l)) (.ite none (pB (gdS g t n nw l))
      (.ret (.tup [iv (sumE w g n nw ov l (Int.tdiv t g)).s, iv (sumE w g n nw ov l (Int.tdiv t g)).c], ringH w g n nw (bif ov then true else (sumE w g n nw ov l (Int.tdiv t g)).k) l)) .fail)) .fail
  | _, _ => .fail
theorem waySe (w g : Int) (n : Nat) (nw : Int) (ov : Bool) (l : List OB) (t : Int) : T.path [true] (T.anon (sumR0 [.ptr 0 0, iv t] (ringH w g n nw ov l))) = some ([(bif !decide (0 < (n : Int)) then true else decide (t < 0), true)], (.tup [iv 0, iv 0], ringH w g n nw ov l)) := by kernel_rfl
theorem waySs (w g : Int) (n : Nat) (nw : Int) (ov : Bool) (l : List OB) (t la f : Int) (hl : IntKind.wrap .i64 (Int.tdiv t g) = la) (hf : fr0 n nw la = f) : T.path [false, false, true] (T.anon (sumR0 [.ptr 0 0, iv t] (ringH w g n nw ov l))) =
    some ([(bif !decide (0 < (n : Int)) then true else decide (t < 0), false), (g == 0, false), (invC okRb ⟨w, g, n, nw, ov, la, l, f⟩ ⟨l, 0, 0, false, f⟩, true)],
      (.tup [iv (endW (nxtC okRb goRb rdRb FRb muRb ⟨w, g, n, nw, ov, la, l, f⟩) ⟨l, 0, 0, false, f⟩).s, iv (endW (nxtC okRb goRb rdRb FRb muRb ⟨w, g, n, nw, ov, la, l, f⟩) ⟨l, 0, 0, false, f⟩).c],
       ringH w g n nw (bif ov then true else (endW (nxtC okRb goRb rdRb FRb muRb ⟨w, g, n, nw, ov, la, l, f⟩) ⟨l, 0, 0, false, f⟩).k) (endW (nxtC okRb goRb rdRb FRb muRb ⟨w, g, n, nw, ov, la, l, f⟩) ⟨l, 0, 0, false, f⟩).l)) := by subst hl; subst hf; kernel_rfl
theorem fr0_is {n : Nat} {nw la : Int} (hn : 0 < n) (hn1 : n ≤ 600) (h0 : 0 ≤ la) (h1 : la ≤ 9223372036854775807) (h2 : -1 ≤ nw) (h3 : nw ≤ 1099511627776) : fr0 n nw la = frR n nw la := by
  obtain ⟨m1, m2, m3⟩ := mxR_ge (nw := la) (b := nw)
  unfold fr0 frR
  rw [wrap64_in (n := mxR la nw - n) (by omega) (by omega), wrap64_in (n := mxR la nw - n + 1) (by omega) (by omega)]
theorem sumS_ok : ObjOk Try.prog 45 sumS := sumR0_ok.of_eval fun args h r hv => by
  unfold sumS at hv
  split at hv
  · rename_i t w g n nw ov l
    obtain ⟨hn, hv⟩ := ite_some hv
    have hn' := of_decide_eq_true hn
    rw [← T.eval_anon (t := sumR0 _ _)]
    have a0 : (bif !decide (0 < (n : Int)) then true else decide (t < 0)) = decide (t < 0) := by rw [decide_eq_true (show 0 < (n : Int) by omega)]; rfl
    cases hb : decide (t < 0) with
    | true =>
      rw [T.eval, hb] at hv
      obtain rfl := Option.some.inj hv
      exact T.path_eval (waySe w g n nw ov l t) ⟨by rw [a0]; exact hb, trivial⟩
    | false =>
      rw [T.eval, hb] at hv
      have hb' := of_decide_eq_false hb
      obtain ⟨hc, hv⟩ := ite_some hv
      obtain rfl := Option.some.inj hv
      obtain ⟨g1, t1, rs, hr⟩ := pB_ok hc
      obtain ⟨q1, q2⟩ := tdiv_bd (t := t) (by omega) g1
      have e := (sum_is (w := w) (g := g) (ov := ov) hr q1 (by omega)).1
      have hk := sum_in (w := w) (g := g) (ov := ov) ⟨rs, hr⟩ q1 (by omega)
      have way := waySs w g n nw ov l t (Int.tdiv t g) (frR n nw (Int.tdiv t g)) (wrap64_in (by omega) (by omega)) (fr0_is hr.n0 hr.n1 q1 (by omega) hr.w0 hr.w1)
      have := T.path_eval way ⟨by rw [a0]; exact hb, by rw [beq_eq_false_iff_ne]; omega, invC_is hk, trivial⟩
      refine this.trans ?_
      show some (_, ringH w g n nw _ (sumE w g n nw ov l (Int.tdiv t g)).l) = _
      rw [e]; rfl
  · cases hv
noncomputable def R6 : Cfg := ⟨Try.prog, lookG [(45, .obj sumS)], [], 0⟩
theorem R6_ok : R6.Ok := Cfg.ok ⟨sumS_ok, trivial⟩ trivial
noncomputable def meanR0 : Eng.Obj := execO R6 noLoops 50
theorem meanR0_ok : ObjOk Try.prog 50 meanR0 := execO_plain R6_ok mixed Try.func50 (by kernel_rfl) (by kernel_rfl)
noncomputable def R7 : Cfg := ⟨Try.prog, lookG [(90, .see madeS)], [], 0⟩
theorem R7_ok : R7.Ok := Cfg.ok ⟨madeS_ok, trivial⟩ trivial
noncomputable def siR0 : Eng.Obj := execO R7 noLoops 54
theorem siR0_ok : ObjOk Try.prog 54 siR0 := execO_plain R7_ok mixed Try.func54 (by kernel_rfl) (by kernel_rfl)
noncomputable def ovR0 : Eng.Obj := execO R7 noLoops 56
theorem ovR0_ok : ObjOk Try.prog 56 ovR0 := execO_plain R7_ok mixed Try.func56 (by kernel_rfl) (by kernel_rfl)
noncomputable def newR1 : Eng.Obj := fun args h0 => (newR0 args h0).bind fun r => .ret (nrmV r.1, nrmH r.2)
theorem newR1_ok : ObjOk Try.prog 43 newR1 := newR0_ok.norm
def badN (w g : Int) : Bool := bif bif bif decide (w < 1) then true else decide (600 < w) then true else decide (g < 1) then true else decide (w < g)
def nN (w g : Int) : Nat := (Int.tdiv (w + g - 1) g).toNat
def emptyR (n : Nat) : List OB := List.replicate n none
def newS : Eng.Obj
  | [.s (.int .i64 w), .s (.int .i64 g)], [] => .ite none (badN w g) (.ret (.nilPtr, [])) (.ret (.ptr 64 0, [(64, .cells 138 [iv w, iv g, .sub 56 1 0 (nN w g), iv (-1), bv false]), (56, bxB (emptyR (nN w g)) [] none)]))
  | _, _ => .fail
theorem badN_false {w g : Int} : badN w g = false ↔ 1 ≤ g ∧ g ≤ w ∧ w ≤ 600 := by
  unfold badN
  by_cases h1 : w < 1
  · rw [decide_eq_true h1]; simp; omega
  · by_cases h2 : 600 < w
    · rw [decide_eq_false h1, decide_eq_true h2]; simp; omega
    · by_cases h3 : g < 1
      · rw [decide_eq_false h1, decide_eq_false h2, decide_eq_true h3]; simp; omega
      · rw [decide_eq_false h1, decide_eq_false h2, decide_eq_false h3]; simp; omega
theorem nN_bd {w g : Int} (h1 : 1 ≤ g) (h2 : g ≤ w) (h3 : w ≤ 600) : 0 < nN w g ∧ nN w g ≤ 600 ∧ ((nN w g : Nat) : Int) = Int.tdiv (w + g - 1) g ∧ w ≤ g * nN w g ∧ g * ((nN w g : Int) - 1) < w := by
  unfold nN
  rw [Int.tdiv_eq_ediv_of_nonneg (by omega)]
  have e1 := Int.mul_ediv_add_emod (w + g - 1) g
  have e2 := Int.emod_nonneg (w + g - 1) (show g ≠ 0 by omega)
  have e3 := Int.emod_lt_of_pos (w + g - 1) (show 0 < g by omega)
  generalize (w + g - 1) / g = q at *
  generalize (w + g - 1) % g = r at *
  have q1 : 0 < q := by
    rcases Int.lt_trichotomy 0 q with h | h | h
    · exact h
    · rw [← h, Int.mul_zero] at e1; omega
    · have : g * q ≤ g * (-1) := Int.mul_le_mul_of_nonneg_left (by omega) (by omega)
      omega
  have q2 : q ≤ 600 := by
    by_cases h : q ≤ 600
    · exact h
    · exfalso
      have h2 : g * 601 ≤ g * q := Int.mul_le_mul_of_nonneg_left (by omega) (by omega)
      omega
  have qt : ((q.toNat : Nat) : Int) = q := Int.toNat_of_nonneg (by omega)
  refine ⟨by omega, by omega, qt, ?_, ?_⟩
  · rw [qt]; omega
  · rw [qt, Int.mul_sub]; omega
def bigN (w g : Int) : Bool := decide (0 ≤ IntKind.wrap .i64 (Int.tdiv (IntKind.wrap .i64 (IntKind.wrap .i64 (w + g) - 1)) g)) && (decide (IntKind.wrap .i64 (Int.tdiv (IntKind.wrap .i64 (IntKind.wrap .i64 (w + g) - 1)) g) ≤ IntKind.wrap .i64 (Int.tdiv (IntKind.wrap .i64 (IntKind.wrap .i64 (w + g) - 1)) g)) && decide (IntKind.wrap .i64 (Int.tdiv (IntKind.wrap .i64 (IntKind.wrap .i64 (w + g) - 1)) g) ≤ 1000000))
theorem wayN0 (w g : Int) : T.path [true] (T.anon (newR1 [iv w, iv g] [])) = some ([(badN w g, true)], (.nilPtr, [])) := by kernel_rfl
theorem wayN1 (w g : Int) (n : Nat) (hn : Int.toNat (IntKind.wrap .i64 (Int.tdiv (IntKind.wrap .i64 (IntKind.wrap .i64 (w + g) - 1)) g)) = n) : T.path [false, false, true] (T.anon (newR1 [iv w, iv g] [])) = some ([(badN w g, false), (g == 0, false), (bigN w g, true)], (.ptr 64 0, [(64, .cells 138 [iv w, iv g, .sub 56 1 0 n, iv (-1), bv false]), (56, bxB (emptyR n) [] none)])) := by subst hn; kernel_rfl
theorem newS_ok : ObjOk Try.prog 43 newS := newR1_ok.of_eval fun args h r hv => by
  unfold newS at hv
  split at hv
  · rename_i w g
    rw [← T.eval_anon (t := newR1 _ _)]
    cases hb : badN w g with
    | true =>
      rw [T.eval, hb] at hv
      obtain rfl := Option.some.inj hv
      exact T.path_eval (wayN0 w g) ⟨hb, trivial⟩
    | false =>
      rw [T.eval, hb] at hv
      obtain rfl := Option.some.inj hv
      obtain ⟨g1, g2, w1⟩ := badN_false.1 hb
      obtain ⟨n0, n1, n2, _⟩ := nN_bd g1 g2 w1
      have e1 : IntKind.wrap .i64 (w + g) = w + g := wrap64_in (by omega) (by omega)
      have e2 : IntKind.wrap .i64 (w + g - 1) = w + g - 1 := wrap64_in (by omega) (by omega)
      have e3 : IntKind.wrap .i64 (Int.tdiv (w + g - 1) g) = Int.tdiv (w + g - 1) g := wrap64_in (by omega) (by omega)
      refine T.path_eval (wayN1 w g (nN w g) (by rw [e1, e2, e3]; rfl)) ⟨hb, by rw [beq_eq_false_iff_ne]; omega, ?_, trivial⟩
      unfold bigN
      rw [e1, e2, e3, decide_eq_true (show 0 ≤ Int.tdiv (w + g - 1) g by omega), decide_eq_true (Int.le_refl _), decide_eq_true (show Int.tdiv (w + g - 1) g ≤ 1000000 by omega)]; rfl
  · cases hv
theorem newRep {w g : Int} (h1 : 1 ≤ g) (h2 : g ≤ w) (h3 : w ≤ 600) : RepR (nN w g) (-1) (emptyR (nN w g)) [] := by
  obtain ⟨n0, n1, _⟩ := nN_bd h1 h2 h3
  exact ⟨n0, n1, by omega, by omega, List.length_replicate, (fun p hp => by cases hp), Nat.zero_le _, fun b h1 h2 h3 => absurd h1 (by omega)⟩
/-- what a mean is -/
def mnV (s c : Int) : Int := bif c == 0 then 0 else IntKind.wrap .i64 (Int.tdiv s c)
noncomputable def meanS : Eng.Obj
  | [.ptr 0 0, .s (.int .i64 t)], [(0, .cells 138 [.s (.int .i64 w), .s (.int .i64 g), .sub 1 1 0 n, .s (.int .i64 nw), .s (.bool ov)]), (1, .bx 20 141 145 [.int .i64, .int .i64, .bool] l [] none)] =>
    .ite none (decide (0 < n)) (.ite none (decide (t < 0)) (.ret (iv 0, ringH w g n nw ov l)) (.ite none (pB (gdS g t n nw l))
      (.ret (iv (mnV (sumE w g n nw ov l (Int.tdiv t g)).s (sumE w g n nw ov l (Int.tdiv t g)).c), ringH w g n nw (bif ov then true else (sumE w g n nw ov l (Int.tdiv t g)).k) l)) .fail)) .fail
  | _, _ => .fail
theorem wayM (w g : Int) (n : Nat) (nw : Int) (ov : Bool) (l : List OB) (t : Int) : T.anon (meanR0 [.ptr 0 0, iv t] (ringH w g n nw ov l)) =
    .ite none (decide (0 < n)) (.ite none (decide (t < 0)) (.ite none ((0 : Int) == 0) (.ret (iv 0, ringH w g n nw ov l)) (.ite none ((0 : Int) == 0) .fail (.ret (iv (IntKind.wrap .i64 (Int.tdiv 0 0)), ringH w g n nw ov l)))) (.ite none (pB (gdS g t n nw l))
      (.ite none ((sumE w g n nw ov l (Int.tdiv t g)).c == 0) (.ret (iv 0, ringH w g n nw (bif ov then true else (sumE w g n nw ov l (Int.tdiv t g)).k) l))
        (.ite none ((sumE w g n nw ov l (Int.tdiv t g)).c == 0) .fail (.ret (iv (IntKind.wrap .i64 (Int.tdiv (sumE w g n nw ov l (Int.tdiv t g)).s (sumE w g n nw ov l (Int.tdiv t g)).c)), ringH w g n nw (bif ov then true else (sumE w g n nw ov l (Int.tdiv t g)).k) l)))) .fail)) .fail := by kernel_rfl
theorem meanS_ok : ObjOk Try.prog 50 meanS := meanR0_ok.of_eval fun args h r hv => by
  unfold meanS at hv
  split at hv
  · rename_i t w g n nw ov l
    rw [← T.eval_anon (t := meanR0 _ _)]
    refine (congrArg T.eval (wayM w g n nw ov l t)).trans ?_
    rw [← hv]
    simp only [T.eval]
    unfold mnV
    cases decide (0 < n)
    · rfl
    · cases decide (t < 0)
      · cases pB (gdS g t n nw l)
        · rfl
        · cases (sumE w g n nw ov l (Int.tdiv t g)).c == 0 <;> rfl
      · rfl
  · cases hv
def siS : Eng.Obj
  | [.ptr 0 0], [(0, .cells 138 [.s (.int .i64 w), .s (.int .i64 g), .sub 1 1 0 n, .s (.int .i64 nw), .s (.bool ov)]), (1, .bx 20 141 145 [.int .i64, .int .i64, .bool] l [] none)] =>
    .ite none (decide (0 < (n : Int))) (.ret (.tup [iv w, iv n], ringH w g n nw ov l)) .fail
  | _, _ => .fail
theorem waySi (w g : Int) (n : Nat) (nw : Int) (ov : Bool) (l : List OB) : T.path [false] (T.anon (siR0 [.ptr 0 0] (ringH w g n nw ov l))) = some ([(!decide (0 < (n : Int)), false)], (.tup [iv w, iv n], ringH w g n nw ov l)) := by kernel_rfl
theorem siS_ok : ObjOk Try.prog 54 siS := siR0_ok.of_eval fun args h r hv => by
  unfold siS at hv
  split at hv
  · rename_i w g n nw ov l
    obtain ⟨hc, hv⟩ := ite_some hv
    obtain rfl := Option.some.inj hv
    rw [← T.eval_anon (t := siR0 _ _)]
    exact T.path_eval (waySi w g n nw ov l) ⟨by rw [hc]; rfl, trivial⟩
  · cases hv
def ovS : List V → Heap → T V
  | [.ptr 0 0], [(0, .cells 138 [.s (.int .i64 _), .s (.int .i64 _), .sub 1 1 0 n, .s (.int .i64 _), .s (.bool ov)]), (1, .bx _ _ _ _ _ _ _)] => .ret (.s (.bool (bif decide (0 < (n : Int)) then ov else false)))
  | _, _ => .fail
theorem ovS_ok : SeeOk Try.prog 56 ovS := ovR0_ok.peep ovS fun args hp v h _ c => by
  unfold ovS at h
  split at h
  · obtain rfl := Option.some.inj h; kernel_rfl
  · cases h
end Go.Proofs.Ytheknddbbgjpkaa.Rin
